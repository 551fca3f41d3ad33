/-
  The document's draws of edges and of orders, as the laws of the fill call them; and their comparison of edges.
-/
import Derived.Test.YtaddhiojahmbpaaDrawEd
import Derived.Test.YtaddhiojahmbpaaFnBase
set_option linter.unusedVariables false
set_option linter.unusedSimpArgs false
namespace Go.Proofs.Ytaddhiojahmbpaa
open Go.ChangeShapes Go.WideShapes Go.ChangeAt Go.RowKit Go.Deep Go.Joins
attribute [local go_sem ↓] Go.wp_at_zero Go.wp_at_succ

theorem drawParents_any (ao : Option Addr) (n cap : Nat) (hn : n ≤ 4096) (w : World) (hr : ByRow w w.heap.size ao n) :
    Calls Try.prog 78 #[.slice ao n cap] w fun e w' => ∃ (g ec : Nat) (l : List (Int × Int)) (x : Int), e = .returned (.tuple #[.slice (some ⟨g, 0, none⟩) l.length ec, .int .i64 x]) ∧ l.length ≤ 300 ∧ l.length ≤ ec ∧ ERow w' (some ⟨g, 0, none⟩) l.length (Lf l) (Hf l) ∧ Below w.heap.size w w' := by
  go_enter Try.func78, Try.ntmps78
  go_wp2_with fail
  refine (l1New_any ao n cap hn _ hr).mono ?_
  rintro e w1 ⟨c, rfl, hC1, hb1⟩
  have hcg := hC1.ge
  go_wp2_with fail
  refine (l4Draw_any _ c ao n cap _ hC1).mono ?_
  rintro e w2 ⟨g, ec, l, x, rfl, hl, hE⟩
  have hb2 : Below w.heap.size w w2 := hb1.trans (gr_below hE.gr hcg hb1.size)
  have hrow := hE.own.has.row
  have hroom := hE.own.room
  clear hE hC1
  go_wp2
  exact bodyPost_ret (v := .tuple #[.slice (some ⟨g, 0, none⟩) l.length ec, .int .i64 x]) (by simp [results, Try.results78, go_sem]) rfl ⟨g, ec, l, x, rfl, hl, hroom, hrow, hb2⟩
theorem drawChordal_any (ao : Option Addr) (n cap : Nat) (hn : n ≤ 4096) (w : World) (hr : ByRow w w.heap.size ao n) :
    Calls Try.prog 37 #[.slice ao n cap] w fun e w' => ∃ (g ec : Nat) (l : List (Int × Int)) (x : Int), e = .returned (.tuple #[.slice (some ⟨g, 0, none⟩) l.length ec, .int .i64 x]) ∧ l.length ≤ 300 ∧ l.length ≤ ec ∧ ERow w' (some ⟨g, 0, none⟩) l.length (Lf l) (Hf l) ∧ Below w.heap.size w w' := by
  go_enter Try.func37, Try.ntmps37
  go_wp2_with fail
  refine (drawParents_any ao n cap hn _ hr).mono ?_
  rintro e w2 ⟨g, ec, l, x, rfl, hl, hroom, hrow, hb2⟩
  go_wp2
  exact bodyPost_ret (v := .tuple #[.slice (some ⟨g, 0, none⟩) l.length ec, .int .i64 x]) (by simp [results, Try.results37, go_sem]) rfl ⟨g, ec, l, x, rfl, hl, hroom, hrow, hb2⟩
set_option maxHeartbeats 1000000 in
theorem drawFill_any (ao : Option Addr) (n cap : Nat) (hn : n ≤ 4096) (w : World) (hr : ByRow w w.heap.size ao n) :
    Calls Try.prog 33 #[.slice ao n cap] w fun e w' => ∃ (p : Int) (go : Option Addr) (k gc : Nat) (po : Option Addr) (m pc : Nat) (P : Nat → Int), e = .returned (.tuple #[.agg #[.int .i64 p, .slice go k gc], .slice po m pc]) ∧ k ≤ 200 ∧ m ≤ 24 ∧ (∃ F T G, Row w' go k F T G) ∧ IRow w' po m P ∧ Below w.heap.size w w' := by
  have hal0 := (Below.refl w.heap.size w).alloc (Nat.le_refl _) (.cells #[.int .i64 0, .slice none 0 0] 26)
  go_enter Try.func33, Try.ntmps33
  go_wp2_with fail
  refine (drawOrderOk_any ao n cap hn _ (hr.up hal0)).mono ?_
  rintro e w3 ⟨p, go, k, gc, po, m, pc, P, rfl, hk, hm, ⟨F, T, G, hrow, hblk⟩, ⟨hP, hpb⟩, hb3⟩
  have hrb3 := (gr_new w 0 (.slice none 0 0)).below hb3 (by simp)
  have hbel3 := below_next hal0 (Nat.le_refl _) hb3
  have r0 : w3.cell? ⟨w.heap.size, 0, none⟩ = some (.int .i64 0) := hrb3.cell (j := 0) (by omega)
  have r1 : w3.cell? ⟨w.heap.size, 1, none⟩ = some (.slice none 0 0) := hrb3.cell (j := 1) (by omega)
  have y0 := hrb3.frozen 0
  have y1 := hrb3.frozen 1
  obtain ⟨q0, q1, q2⟩ := res_cells hrb3 p (.slice go k gc)
  have h1 := gr_setCell w3 w.heap.size 0 (.int .i64 p)
  have h2 := gr_setCell (w3.setCell ⟨w.heap.size, 0, none⟩ (.int .i64 p)) w.heap.size 1 (.slice go k gc)
  have o1 : ∃ F T G, Row ((w3.setCell ⟨w.heap.size, 0, none⟩ (.int .i64 p)).setCell ⟨w.heap.size, 1, none⟩ (.slice go k gc)) go k F T G :=
    ⟨F, T, G, (hrow.otherB h1 (fun a e h => by have := hblk a e h; simp at this ⊢; omega)).otherB h2 (fun a e h => by have := hblk a e h; simp at this ⊢; omega)⟩
  have hP2 : IRow ((w3.setCell ⟨w.heap.size, 0, none⟩ (.int .i64 p)).setCell ⟨w.heap.size, 1, none⟩ (.slice go k gc)) po m P := (hP.other h1 (fun a e h => by have := hpb a e h; simp at this ⊢; omega)).other h2 (fun a e h => by have := hpb a e h; simp at this ⊢; omega)
  have o2 : Below w.heap.size w ((w3.setCell ⟨w.heap.size, 0, none⟩ (.int .i64 p)).setCell ⟨w.heap.size, 1, none⟩ (.slice go k gc)) := (hbel3.setCell (p := ⟨w.heap.size, 0, none⟩) (Nat.le_refl _) _).setCell (p := ⟨w.heap.size, 1, none⟩) (Nat.le_refl _) _
  clear hrb3 hal0 hb3 h1 h2
  go_wp2
  exact bodyPost_ret (v := .tuple #[.agg #[.int .i64 p, .slice go k gc], .slice po m pc]) (by simp [results, Try.results33, go_sem, q0, q1, q2]) rfl ⟨p, go, k, gc, po, m, pc, P, rfl, hk, hm, o1, hP2, o2⟩

set_option maxHeartbeats 800000 in
theorem likeEdges_same (ao ao' : Option Addr) (n cap cap' : Nat) (L H : Nat → Int) (hn : n ≤ 1048576) (w : World) (hr : ERow w ao n L H) (hr' : ERow w ao' n L H) :
    Calls Try.prog 35 #[.slice ao n cap, .slice ao' n cap'] w fun e w' => e = .returned (.bool true) ∧ Below w.heap.size w w' := by
  go_enter Try.func35, Try.ntmps35
  go_wp2
  go_loopw [5] (fun i wr => ∃ k : Nat, k ≤ n ∧ i = .int .i64 k ∧ Below w.heap.size w wr) (fun i _ => n - (intOf i).toNat)
  case atStart => exact ⟨0, Nat.zero_le _, rfl, Below.refl _ _⟩
  case round =>
    obtain ⟨k, hk, rfl, hbel⟩ := hrel
    by_cases hlt : k < n
    rotate_left
    · have hkn : k = n := by omega
      subst hkn
      go_wp2
      go_ret
      exact ⟨rfl, hbel⟩
    obtain ⟨b, o, hao, c0, c1⟩ := (hr.below hbel (Nat.le_refl _)) k hlt
    obtain ⟨b', o', hao', d0, d1⟩ := (hr'.below hbel (Nat.le_refl _)) k hlt
    subst hao
    subst hao'
    have hk1 : (0 : Int) ≤ (k : Int) := by omega
    have hk2 : (k : Int) < (n : Int) := by omega
    go_wp2
    go_quiet (fail)
    go_wp2
    go_roundw
    case rel => exact ⟨k + 1, by omega, by go_num, below_drewN hbel _⟩
    case measure => simp [intOf]; omega

end Go.Proofs.Ytaddhiojahmbpaa
