/-
  The document's draw of a place. What is drawn is told by existence alone.
-/
import Derived.Test.YteibbknpcgcjjabDrawAnyP
set_option linter.unusedVariables false
set_option linter.unusedSimpArgs false
namespace Go.Proofs.Yteibbknpcgcjjab
open Go.RowKit Go.Maps
attribute [local go_sem ↓] Go.wp_at_zero Go.wp_at_succ

theorem lit5W {W : World} {b : Nat} {a0 a1 a2 a3 a4 : Int} {t : TypeId} (h : W.heap[b]? = some (.cells #[.int .i64 a0, .int .i64 a1, .int .i64 a2, .int .i64 a3, .int .i64 a4] t (0, 0))) (h0 : (Lit.int .i64 a0).wf = true) (h1 : (Lit.int .i64 a1).wf = true) (h2 : (Lit.int .i64 a2).wf = true) (h3 : (Lit.int .i64 a3).wf = true) (h4 : (Lit.int .i64 a4).wf = true) {y : Nat} (hy : y < 5) : ∃ v, W.cell? ⟨b, y, none⟩ = some (.int .i64 v) ∧ (Lit.int .i64 v).wf = true := by
  have : y = 0 ∨ y = 1 ∨ y = 2 ∨ y = 3 ∨ y = 4 := by omega
  rcases this with rfl | rfl | rfl | rfl | rfl
  · exact ⟨a0, by simp [World.cell?, h], h0⟩
  · exact ⟨a1, by simp [World.cell?, h], h1⟩
  · exact ⟨a2, by simp [World.cell?, h], h2⟩
  · exact ⟨a3, by simp [World.cell?, h], h3⟩
  · exact ⟨a4, by simp [World.cell?, h], h4⟩
set_option maxHeartbeats 1000000 in
theorem l1DrawPlace_wf (base c : Nat) (ao : Option Addr) (n cap : Nat) (w : World) (hC : CurAt w base c ao n cap) :
    Calls Try.prog 33 #[.pointer (some ⟨c, 0, none⟩)] w fun e w' => ∃ x : Int, e = .returned (.int .i64 x) ∧ (Lit.int .i64 x).wf = true ∧ CurAt w' base c ao n cap ∧ w.grownBy w' (some c) := by
  have hcl := hC.lt
  go_enter Try.func33, Try.ntmps33
  go_wp2_with fail
  refine (l1Once_any base c ao n cap 20 (by omega) (by omega) _ hC).mono ?_
  rintro e w1 ⟨bx, rfl, hC1, hg1⟩
  have hs1 := hg1.size
  cases bx
  · go_wp2_with (go_at_call 60; refine (l1Below_any base c ao n cap 8 (by omega) (by omega) _ hC1).mono ?_; rintro e w2 ⟨x, rfl, hx, hC2, hg2⟩)
    go_ret
    exact ⟨_, rfl, wfA (by omega), hC2, hg1.trans hg2⟩
  · have hal := (Below.refl w1.heap.size w1).alloc (Nat.le_refl _) (.cells #[.int .i64 (-1), .int .i64 23, .int .i64 24, .int .i64 4611686018427387904, .int .i64 (-9223372036854775808)] 2)
    go_wp2_with fail
    refine (l1Below_any base c ao n cap 5 (by omega) (by omega) _ (hC1.next hal)).mono ?_
    rintro e w2 ⟨y, rfl, hy, hC2, hg2⟩
    obtain ⟨v, hv, hvw⟩ := lit5W ((hg2.block w1.heap.size (by simp) (by simp <;> omega)).trans (Go.Deep.blk_alloc_new _ _)) (wfA (by omega)) (wfA (by omega)) (wfA (by omega)) (wfA (by omega)) (wfA (by omega)) (show y < 5 by omega)
    have hy' : (y : Int) < 5 := by omega
    go_wp2
    go_ret
    exact ⟨_, rfl, hvw, hC2, (hg1.trans (World.grownBy_alloc _ _ _)).trans hg2⟩
theorem l1DrawPlace_any (base c : Nat) (ao : Option Addr) (n cap : Nat) (w : World) (hC : CurAt w base c ao n cap) :
    Calls Try.prog 33 #[.pointer (some ⟨c, 0, none⟩)] w fun e w' => ∃ x : Int, e = .returned (.int .i64 x) ∧ CurAt w' base c ao n cap ∧ w.grownBy w' (some c) :=
  (l1DrawPlace_wf base c ao n cap w hC).mono (fun e w' ⟨x, h1, _, h2, h3⟩ => ⟨x, h1, h2, h3⟩)

end Go.Proofs.Yteibbknpcgcjjab
