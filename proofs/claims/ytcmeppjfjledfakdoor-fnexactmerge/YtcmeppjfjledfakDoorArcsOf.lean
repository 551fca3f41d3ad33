/-
  The program's arcs out of numbers, three at a time, in new memory.
-/
import Derived.Test.YtcmeppjfjledfakDoorArcL
import Derived.Test.YtcmeppjfjledfakDoorNumsR
import Derived.Test.YtcmeppjfjledfakDoorOwnI
import Derived.Deep.RegionHeld3
set_option linter.unusedVariables false
set_option linter.unusedSimpArgs false
namespace Go.Proofs.YtcmeppjfjledfakDoor
open Go.RowKit Go.Maps
attribute [local go_sem ↓] Go.wp_at_zero Go.wp_at_succ

theorem own_three {w : World} {b n k : Nat} {ns : List Int} (h : Own w b n (upto (tri ns) (k * 3))) (hk : k < n) :
    Own (((w.setCell ⟨b, k * 3, none⟩ (.int .i64 (tri ns (k * 3)))).setCell ⟨b, k * 3 + 1, none⟩ (.int .i64 (tri ns (k * 3 + 1)))).setCell ⟨b, k * 3 + 2, none⟩ (.int .i64 (tri ns (k * 3 + 2)))) b n (upto (tri ns) ((k + 1) * 3)) := by
  unfold tri at h ⊢
  rw [ar0, ar1, ar2]
  exact h.three hk
set_option maxHeartbeats 4000000 in
set_option maxRecDepth 20000 in
theorem arcsOf_any (go : Option Addr) (gc B : Nat) (ns : List Int) (n m : Nat) (hn : n = ns.length) (hm : n / 3 = m) (h30 : n ≤ 1000) (w : World) (hO : OwnE w B go n gc (gd ns)) :
    Calls Tryd.prog 49 #[.slice go n gc] w fun e w' => e = .returned (.slice (some ⟨w.heap.size, 0, none⟩) m m) ∧ Own w' w.heap.size m (tri ns) ∧ Below w.heap.size w w' := by
  have hq : (n : Int) / 3 = (m : Int) := by omega
  have HM : Hid (n / 3 = m) := hm
  have HN : Hid (n = ns.length) := hn
  have hm9 : m ≤ 1048576 := by omega
  clear hm hn
  go_enter Tryd.func49, Tryd.ntmps49
  have hmk := make_arcs m hm9
  go_wp2
  clear hmk hq
  have hO0 : Own (w.alloc (.cells (madeCells #[.int .i64 0, .int .i64 0, .int .i64 0] (m * 3)) 95)) w.heap.size m (upto (tri ns) (0 * 3)) := by simpa using made_own w m (tri ns)
  go_loopw [11] (fun x wr => ∃ k : Nat, k ≤ m ∧ x = .int .i64 k ∧ Own wr w.heap.size m (upto (tri ns) (k * 3)) ∧ Below w.heap.size w wr) (fun x _ => m - (intOf x).toNat)
  case atStart => exact ⟨0, Nat.zero_le _, rfl, hO0, (Below.refl _ _).alloc (Nat.le_refl _) _⟩
  case round =>
    clear hO0
    obtain ⟨k, hk, rfl, hown, hbel⟩ := hrel
    by_cases hlt : k < m
    · have hlt' : (k : Int) < (m : Int) := by omega
      have h3 : 3 * k + 2 < n := by have := HM.out; omega
      obtain ⟨g, rfl, hgB, hI⟩ := (hO.next (Below.refl _ w)).has (by omega)
      have hgl : g < w.heap.size := hI.lt
      have hI2 := hI.below hbel hgl
      have c0 : wr.cell? ⟨g, 3 * k, none⟩ = some (.int .i64 (tri ns (k * 3))) := by rw [tri0]; exact hI2.cell (by omega)
      have c1 : wr.cell? ⟨g, 3 * k + 1, none⟩ = some (.int .i64 (tri ns (k * 3 + 1))) := by rw [tri1]; exact hI2.cell (by omega)
      have c2 : wr.cell? ⟨g, 3 * k + 2, none⟩ = some (.int .i64 (tri ns (k * 3 + 2))) := by rw [tri2]; exact hI2.cell (by omega)
      have hq0 : IntKind.i64.wrap (3 * (k : Int)) = 3 * (k : Int) := by rw [IntKind.wrap_i64]; omega
      have hq1 : IntKind.i64.wrap (3 * (k : Int) + 1) = 3 * (k : Int) + 1 := by rw [IntKind.wrap_i64]; omega
      have hq2 : IntKind.i64.wrap (3 * (k : Int) + 2) = 3 * (k : Int) + 2 := by rw [IntKind.wrap_i64]; omega
      have hp0 : (0 : Int) ≤ 3 * (k : Int) := by omega
      have hp1 : (0 : Int) ≤ 3 * (k : Int) + 1 := by omega
      have hp2 : (0 : Int) ≤ 3 * (k : Int) + 2 := by omega
      have hl0 : 3 * (k : Int) < (n : Int) := by omega
      have hl1 : 3 * (k : Int) + 1 < (n : Int) := by omega
      have hl2 : 3 * (k : Int) + 2 < (n : Int) := by omega
      have hn0 : (3 * (k : Int)).toNat = 3 * k := by omega
      have hn1 : (3 * (k : Int) + 1).toNat = 3 * k + 1 := by omega
      have hn2 : (3 * (k : Int) + 2).toNat = 3 * k + 2 := by omega
      have hk0 : (0 : Int) ≤ (k : Int) := by omega
      have d0 := World.rowIs.cell hown (i := k * 3) (by omega)
      have d1 := World.rowIs.cell hown (i := k * 3 + 1) (by omega)
      have d2 := World.rowIs.cell hown (i := k * 3 + 2) (by omega)
      have z0 : ∀ j, wr.frozen? ⟨w.heap.size, j, none⟩ = false := fun j => (Has.of_own hown).frozen j
      have hne : w.heap.size ≠ g := by omega
      go_wp2_with fail
      go_region_held3 (fun X => X.cell? ⟨g, 3 * k, none⟩ = some (.int .i64 (tri ns (k * 3))) ∧ X.cell? ⟨g, 3 * k + 1, none⟩ = some (.int .i64 (tri ns (k * 3 + 1))) ∧ X.cell? ⟨g, 3 * k + 2, none⟩ = some (.int .i64 (tri ns (k * 3 + 2)))) (go_keep) (fail)
      have hown9 := (own_three hown hlt).below (Below.refl _ _).drew
      have hB9 := (((hbel.setCell (p := ⟨w.heap.size, k * 3, none⟩) (Nat.le_refl _) (.int .i64 (tri ns (k * 3)))).setCell (p := ⟨w.heap.size, k * 3 + 1, none⟩) (Nat.le_refl _) (.int .i64 (tri ns (k * 3 + 1)))).setCell (p := ⟨w.heap.size, k * 3 + 2, none⟩) (Nat.le_refl _) (.int .i64 (tri ns (k * 3 + 2)))).drew
      go_wp2
      go_roundw
      case rel => exact ⟨k + 1, by omega, by go_num, hown9, hB9⟩
      case measure => simp [intOf]; omega
    · have hkm : k = m := by omega
      subst hkm
      go_wp2
      go_ret
      exact ⟨rfl, World.rowIs.congr hown (fun j hj => by unfold upto; rw [if_pos hj]), hbel⟩

end Go.Proofs.YtcmeppjfjledfakDoor
