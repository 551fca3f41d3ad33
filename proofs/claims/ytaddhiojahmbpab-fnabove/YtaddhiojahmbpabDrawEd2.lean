/-
  The document's draws of edges and of orders, as the laws of the fill call them; and their comparison of edges.
-/
import Derived.Test.YtaddhiojahmbpabDrawOrd
import Derived.Test.YtaddhiojahmbpabFnBase
set_option linter.unusedVariables false
set_option linter.unusedSimpArgs false
namespace Go.Proofs.Ytaddhiojahmbpab
open Go.ChangeShapes Go.WideShapes Go.ChangeAt Go.RowKit Go.Deep Go.Joins
attribute [local go_sem ↓] Go.wp_at_zero Go.wp_at_succ

set_option maxHeartbeats 1000000 in
theorem drawFill_any (ao : Option Addr) (n cap : Nat) (hn : n ≤ 4096) (w : World) (hr : ByRow w w.heap.size ao n) :
    Calls Try.prog 9 #[.slice ao n cap] w fun e w' => ∃ (p : Int) (go : Option Addr) (k gc : Nat) (po : Option Addr) (m pc : Nat) (P : Nat → Int), e = .returned (.tuple #[.agg #[.int .i64 p, .slice go k gc], .slice po m pc]) ∧ k ≤ 200 ∧ m ≤ 24 ∧ (∃ F T G, Row w' go k F T G) ∧ IRow w' po m P ∧ Below w.heap.size w w' := by
  have hal0 := (Below.refl w.heap.size w).alloc (Nat.le_refl _) (.cells #[.int .i64 0, .slice none 0 0] 32)
  go_enter Try.func9, Try.ntmps9
  go_wp2_with fail
  refine (drawOrderOk_any ao n cap hn _ (hr.up hal0)).mono ?_
  rintro e w3 ⟨p, go, k, gc, po, m, pc, P, rfl, hk, hm, ⟨F, T, G, hrow, hblk⟩, ⟨hP, hpb⟩, hb3⟩
  have hrb3 := (gr_new w 0 (.slice none 0 0)).below hb3 (by simp)
  have hbel3 := below_next hal0 (Nat.le_refl _) hb3
  have r0 : w3.cell? ⟨w.heap.size, 0, none⟩ = some (.int .i64 0) := hrb3.cell (j := 0) (by omega)
  have r1 : w3.cell? ⟨w.heap.size, 1, none⟩ = some (.slice none 0 0) := hrb3.cell (j := 1) (by omega)
  have y0 := hrb3.frozen 0
  have y1 := hrb3.frozen 1
  obtain ⟨q0, q1, q2⟩ := res_cells hrb3 p (.slice go k gc)
  have h1 := gr_setCell w3 w.heap.size 0 (.int .i64 p)
  have h2 := gr_setCell (w3.setCell ⟨w.heap.size, 0, none⟩ (.int .i64 p)) w.heap.size 1 (.slice go k gc)
  have o1 : ∃ F T G, Row ((w3.setCell ⟨w.heap.size, 0, none⟩ (.int .i64 p)).setCell ⟨w.heap.size, 1, none⟩ (.slice go k gc)) go k F T G :=
    ⟨F, T, G, (hrow.otherB h1 (fun a e h => by have := hblk a e h; simp at this ⊢; omega)).otherB h2 (fun a e h => by have := hblk a e h; simp at this ⊢; omega)⟩
  have hP2 : IRow ((w3.setCell ⟨w.heap.size, 0, none⟩ (.int .i64 p)).setCell ⟨w.heap.size, 1, none⟩ (.slice go k gc)) po m P := (hP.other h1 (fun a e h => by have := hpb a e h; simp at this ⊢; omega)).other h2 (fun a e h => by have := hpb a e h; simp at this ⊢; omega)
  have o2 : Below w.heap.size w ((w3.setCell ⟨w.heap.size, 0, none⟩ (.int .i64 p)).setCell ⟨w.heap.size, 1, none⟩ (.slice go k gc)) := (hbel3.setCell (p := ⟨w.heap.size, 0, none⟩) (Nat.le_refl _) _).setCell (p := ⟨w.heap.size, 1, none⟩) (Nat.le_refl _) _
  clear hrb3 hal0 hb3 h1 h2
  go_wp2
  exact bodyPost_ret (v := .tuple #[.agg #[.int .i64 p, .slice go k gc], .slice po m pc]) (by simp [results, Try.results9, go_sem, q0, q1, q2]) rfl ⟨p, go, k, gc, po, m, pc, P, rfl, hk, hm, o1, hP2, o2⟩

end Go.Proofs.Ytaddhiojahmbpab
