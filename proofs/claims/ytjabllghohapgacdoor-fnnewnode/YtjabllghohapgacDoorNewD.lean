/-
  What is drawn for a new server; the joined laws' likeness of servers whose lists are none; Beat of one that follows.
-/
import Derived.Test.YtjabllghohapgacDoorNewS
import Derived.Test.YtjabllghohapgacDoorDrawF
import Derived.Test.YtjabllghohapgacDoorDrawN
import Derived.Test.YtjabllghohapgacDoorFnBig
set_option linter.unusedVariables false
set_option linter.unusedSimpArgs false
namespace Go.Proofs.YtjabllghohapgacDoor
open Go.RowKit
attribute [local go_sem ↓] Go.wp_at_zero Go.wp_at_succ

theorem l1From_6 (base c : Nat) (ao : Option Addr) (n cap : Nat) (w : World) (hC : CurAt w base c ao n cap) :
    Calls Tryd.prog 66 #[.pointer (some ⟨c, 0, none⟩), .int .i64 (-1), .int .i64 6] w fun e w' => ∃ x : Int, e = .returned (.int .i64 x) ∧ CurAt w' base c ao n cap ∧ w.grownBy w' (some c) := by
  go_enter Tryd.func66, Tryd.ntmps66
  go_wp2_with (go_at_call 54; refine (l1Below_any base c ao n cap _ (by omega) (by omega) _ hC).mono ?_; rintro e w1 ⟨x, rfl, hx, hC1, hg1⟩)
  go_ret
  exact ⟨_, rfl, hC1, hg1⟩
theorem l1From_7 (base c : Nat) (ao : Option Addr) (n cap : Nat) (w : World) (hC : CurAt w base c ao n cap) :
    Calls Tryd.prog 66 #[.pointer (some ⟨c, 0, none⟩), .int .i64 (-1), .int .i64 7] w fun e w' => ∃ x : Int, e = .returned (.int .i64 x) ∧ CurAt w' base c ao n cap ∧ w.grownBy w' (some c) := by
  go_enter Tryd.func66, Tryd.ntmps66
  go_wp2_with (go_at_call 54; refine (l1Below_any base c ao n cap _ (by omega) (by omega) _ hC).mono ?_; rintro e w1 ⟨x, rfl, hx, hC1, hg1⟩)
  go_ret
  exact ⟨_, rfl, hC1, hg1⟩
theorem drawNewNode_any (ao : Option Addr) (n cap : Nat) (hn : n ≤ 4096) (w : World) (hr : ByRow w w.heap.size ao n) :
    Calls Tryd.prog 30 #[.slice ao n cap] w fun e w' => ∃ i p : Int, e = .returned (.tuple #[.int .i64 i, .int .i64 p]) ∧ Below w.heap.size w w' := by
  go_enter Tryd.func30, Tryd.ntmps30
  go_wp2_with fail
  refine (l1New_any ao n cap hn _ hr).mono ?_
  rintro e w1 ⟨c, rfl, hC1, hb1⟩
  have hcg := hC1.ge
  go_wp2_with fail
  refine (l1From_6 _ c ao n cap _ hC1).mono ?_
  rintro e w2 ⟨x, rfl, hC2, hg2⟩
  have hA2 : Below w.heap.size w w2 := hb1.trans (gr_below hg2 hcg hb1.size)
  go_wp2_with fail
  refine (l1From_7 _ c ao n cap _ hC2).mono ?_
  rintro e w3 ⟨y, rfl, hC3, hg3⟩
  have hA3 : Below w.heap.size w w3 := hA2.trans (gr_below hg3 hcg hA2.size)
  go_wp2
  exact bodyPost_ret (v := .tuple #[.int .i64 x, .int .i64 y]) (by simp [results, Tryd.results30, go_sem]) rfl ⟨_, _, rfl, hA3⟩
theorem likeLog_nil (w : World) : Calls Tryd.prog 20 #[.slice none 0 0, .slice none 0 0] w fun e w' => e = .returned (.bool true) ∧ w' = w := by
  go_enter Tryd.func20, Tryd.ntmps20
  go_wp2
  go_loopw [5] (fun x wr => x = .int .i64 0 ∧ wr = w) (fun _ _ => 0)
  case atStart => exact ⟨rfl, rfl⟩
  case round =>
    obtain ⟨rfl, rfl⟩ := hrel
    go_wp2
    go_ret
    exact ⟨rfl, rfl⟩
theorem likeInts_nil (w : World) : Calls Tryd.prog 68 #[.slice none 0 0, .slice none 0 0] w fun e w' => e = .returned (.bool true) ∧ w' = w := by
  go_enter Tryd.func68, Tryd.ntmps68
  go_wp2
  go_loopw [5] (fun x wr => x = .int .i64 0 ∧ wr = w) (fun _ _ => 0)
  case atStart => exact ⟨rfl, rfl⟩
  case round =>
    obtain ⟨rfl, rfl⟩ := hrel
    go_wp2
    go_ret
    exact ⟨rfl, rfl⟩
theorem likeNode_nil (i p t v r c : Int) (w : World) : Calls Tryd.prog 33 #[.agg #[.int .i64 i, .int .i64 p, .int .i64 t, .int .i64 v, .slice none 0 0, .int .i64 r, .int .i64 c, .slice none 0 0, .slice none 0 0, .slice none 0 0], .agg #[.int .i64 i, .int .i64 p, .int .i64 t, .int .i64 v, .slice none 0 0, .int .i64 r, .int .i64 c, .slice none 0 0, .slice none 0 0, .slice none 0 0]] w fun e w' => e = .returned (.bool true) ∧ Below w.heap.size w w' := by
  have hb : Below w.heap.size w ((w.alloc (.cells #[.int .i64 i, .int .i64 p, .int .i64 t, .int .i64 v, .slice none 0 0, .int .i64 r, .int .i64 c, .slice none 0 0, .slice none 0 0, .slice none 0 0] 52)).alloc (.cells #[.int .i64 i, .int .i64 p, .int .i64 t, .int .i64 v, .slice none 0 0, .int .i64 r, .int .i64 c, .slice none 0 0, .slice none 0 0, .slice none 0 0] 52)) := ((Below.refl _ _).alloc (Nat.le_refl _) _).alloc (by simp) _
  have ya5 : ((w.alloc (.cells #[.int .i64 i, .int .i64 p, .int .i64 t, .int .i64 v, .slice none 0 0, .int .i64 r, .int .i64 c, .slice none 0 0, .slice none 0 0, .slice none 0 0] 52)).alloc (.cells #[.int .i64 i, .int .i64 p, .int .i64 t, .int .i64 v, .slice none 0 0, .int .i64 r, .int .i64 c, .slice none 0 0, .slice none 0 0, .slice none 0 0] 52)).cell? ⟨w.heap.size, 5, none⟩ = some (.int .i64 r) := by simp [go_sem]
  have ya6 : ((w.alloc (.cells #[.int .i64 i, .int .i64 p, .int .i64 t, .int .i64 v, .slice none 0 0, .int .i64 r, .int .i64 c, .slice none 0 0, .slice none 0 0, .slice none 0 0] 52)).alloc (.cells #[.int .i64 i, .int .i64 p, .int .i64 t, .int .i64 v, .slice none 0 0, .int .i64 r, .int .i64 c, .slice none 0 0, .slice none 0 0, .slice none 0 0] 52)).cell? ⟨w.heap.size, 6, none⟩ = some (.int .i64 c) := by simp [go_sem]
  have ya7 : ((w.alloc (.cells #[.int .i64 i, .int .i64 p, .int .i64 t, .int .i64 v, .slice none 0 0, .int .i64 r, .int .i64 c, .slice none 0 0, .slice none 0 0, .slice none 0 0] 52)).alloc (.cells #[.int .i64 i, .int .i64 p, .int .i64 t, .int .i64 v, .slice none 0 0, .int .i64 r, .int .i64 c, .slice none 0 0, .slice none 0 0, .slice none 0 0] 52)).cell? ⟨w.heap.size, 7, none⟩ = some (.slice none 0 0) := by simp [go_sem]
  have ya8 : ((w.alloc (.cells #[.int .i64 i, .int .i64 p, .int .i64 t, .int .i64 v, .slice none 0 0, .int .i64 r, .int .i64 c, .slice none 0 0, .slice none 0 0, .slice none 0 0] 52)).alloc (.cells #[.int .i64 i, .int .i64 p, .int .i64 t, .int .i64 v, .slice none 0 0, .int .i64 r, .int .i64 c, .slice none 0 0, .slice none 0 0, .slice none 0 0] 52)).cell? ⟨w.heap.size, 8, none⟩ = some (.slice none 0 0) := by simp [go_sem]
  have ya9 : ((w.alloc (.cells #[.int .i64 i, .int .i64 p, .int .i64 t, .int .i64 v, .slice none 0 0, .int .i64 r, .int .i64 c, .slice none 0 0, .slice none 0 0, .slice none 0 0] 52)).alloc (.cells #[.int .i64 i, .int .i64 p, .int .i64 t, .int .i64 v, .slice none 0 0, .int .i64 r, .int .i64 c, .slice none 0 0, .slice none 0 0, .slice none 0 0] 52)).cell? ⟨w.heap.size, 9, none⟩ = some (.slice none 0 0) := by simp [go_sem]
  have yb5 : ((w.alloc (.cells #[.int .i64 i, .int .i64 p, .int .i64 t, .int .i64 v, .slice none 0 0, .int .i64 r, .int .i64 c, .slice none 0 0, .slice none 0 0, .slice none 0 0] 52)).alloc (.cells #[.int .i64 i, .int .i64 p, .int .i64 t, .int .i64 v, .slice none 0 0, .int .i64 r, .int .i64 c, .slice none 0 0, .slice none 0 0, .slice none 0 0] 52)).cell? ⟨w.heap.size + 1, 5, none⟩ = some (.int .i64 r) := by simp [go_sem]
  have yb6 : ((w.alloc (.cells #[.int .i64 i, .int .i64 p, .int .i64 t, .int .i64 v, .slice none 0 0, .int .i64 r, .int .i64 c, .slice none 0 0, .slice none 0 0, .slice none 0 0] 52)).alloc (.cells #[.int .i64 i, .int .i64 p, .int .i64 t, .int .i64 v, .slice none 0 0, .int .i64 r, .int .i64 c, .slice none 0 0, .slice none 0 0, .slice none 0 0] 52)).cell? ⟨w.heap.size + 1, 6, none⟩ = some (.int .i64 c) := by simp [go_sem]
  have yb7 : ((w.alloc (.cells #[.int .i64 i, .int .i64 p, .int .i64 t, .int .i64 v, .slice none 0 0, .int .i64 r, .int .i64 c, .slice none 0 0, .slice none 0 0, .slice none 0 0] 52)).alloc (.cells #[.int .i64 i, .int .i64 p, .int .i64 t, .int .i64 v, .slice none 0 0, .int .i64 r, .int .i64 c, .slice none 0 0, .slice none 0 0, .slice none 0 0] 52)).cell? ⟨w.heap.size + 1, 7, none⟩ = some (.slice none 0 0) := by simp [go_sem]
  have yb8 : ((w.alloc (.cells #[.int .i64 i, .int .i64 p, .int .i64 t, .int .i64 v, .slice none 0 0, .int .i64 r, .int .i64 c, .slice none 0 0, .slice none 0 0, .slice none 0 0] 52)).alloc (.cells #[.int .i64 i, .int .i64 p, .int .i64 t, .int .i64 v, .slice none 0 0, .int .i64 r, .int .i64 c, .slice none 0 0, .slice none 0 0, .slice none 0 0] 52)).cell? ⟨w.heap.size + 1, 8, none⟩ = some (.slice none 0 0) := by simp [go_sem]
  have yb9 : ((w.alloc (.cells #[.int .i64 i, .int .i64 p, .int .i64 t, .int .i64 v, .slice none 0 0, .int .i64 r, .int .i64 c, .slice none 0 0, .slice none 0 0, .slice none 0 0] 52)).alloc (.cells #[.int .i64 i, .int .i64 p, .int .i64 t, .int .i64 v, .slice none 0 0, .int .i64 r, .int .i64 c, .slice none 0 0, .slice none 0 0, .slice none 0 0] 52)).cell? ⟨w.heap.size + 1, 9, none⟩ = some (.slice none 0 0) := by simp [go_sem]
  go_enter Tryd.func33, Tryd.ntmps33
  go_wp2_with fail
  refine (likeLog_nil _).mono ?_
  rintro e w1 ⟨rfl, rfl⟩
  go_wp2_with fail
  refine (likeInts_nil _).mono ?_
  rintro e w1 ⟨rfl, rfl⟩
  go_wp2_with fail
  refine (likeInts_nil _).mono ?_
  rintro e w1 ⟨rfl, rfl⟩
  go_wp2_with fail
  refine (likeInts_nil _).mono ?_
  rintro e w1 ⟨rfl, rfl⟩
  go_wp2
  go_ret
  exact ⟨rfl, hb⟩
theorem beat_nil (i p : Int) (a : Addr) (w : World) (hV : w.cell? ⟨1, 0, none⟩ = some (.iface 195 (.pointer (some a)))) : Calls Tryd.prog 35 #[.agg #[.int .i64 i, .int .i64 p, .int .i64 0, .int .i64 (-1), .slice none 0 0, .int .i64 1, .int .i64 0, .slice none 0 0, .slice none 0 0, .slice none 0 0]] w fun e w' => e = .returned (.slice none 0 0) ∧ Below w.heap.size w w' := by
  have hb0 : Below w.heap.size w (w.alloc (.cells #[.int .i64 i, .int .i64 p, .int .i64 0, .int .i64 (-1), .slice none 0 0, .int .i64 1, .int .i64 0, .slice none 0 0, .slice none 0 0, .slice none 0 0] 52)) := (Below.refl _ _).alloc (Nat.le_refl _) _
  have hV0 := keep_cell hb0 (Nat.le_refl _) hV
  have y5 : (w.alloc (.cells #[.int .i64 i, .int .i64 p, .int .i64 0, .int .i64 (-1), .slice none 0 0, .int .i64 1, .int .i64 0, .slice none 0 0, .slice none 0 0, .slice none 0 0] 52)).cell? ⟨w.heap.size, 5, none⟩ = some (.int .i64 1) := by simp [go_sem]
  go_enter Tryd.func35, Tryd.ntmps35
  go_wp2_with fail
  refine (nodeOk_nil p i a _ hV0).mono ?_
  rintro e w1 ⟨rfl, hb1⟩
  replace y5 := keep_cell hb1 (Nat.le_refl _) y5
  have hA := below_next hb0 (Nat.le_refl _) hb1
  generalize decide (1 ≤ p ∧ p ≤ 5 ∧ 0 ≤ i ∧ i < p) = B
  cases B
  · go_wp2
    go_ret
    exact ⟨rfl, hA⟩
  · go_wp2
    go_ret
    exact ⟨rfl, hA⟩

end Go.Proofs.YtjabllghohapgacDoor
