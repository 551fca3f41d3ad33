/-
  Ranks, the document's.
-/
import Derived.Test.YtdgnlpafmkhdjaaPack2
set_option linter.unusedVariables false
set_option linter.unusedSimpArgs false
namespace Go.Proofs.Ytdgnlpafmkhdjaa
open Go.RowKit
attribute [local go_sem ↓] Go.wp_at_zero Go.wp_at_succ

set_option maxHeartbeats 1000000 in
theorem specRanks_any (ao : Option Addr) (n cap : Nat) (P : Nat → Int) (hn : n ≤ 1048576) (w : World) (hr : IRow w ao n P) :
    Calls Try.prog 32 #[.slice ao n cap] w fun e w' => Ans w w' e (lenR n P) (rk P (-1) n) := by
  rcases Bool.eq_false_or_eq_true (okR n P) with h | h
  rotate_left
  · have hL : lenR n P = 0 := by simp [lenR, h]
    rw [hL]
    go_enter Try.func32, Try.ntmps32
    go_wp2_with (go_at_call 72; refine (l3Each_any ao n cap P hn _ hr).mono ?_; rintro e w1 ⟨rfl, hb1⟩)
    go_ret
    exact ⟨_, _, rfl, fun h => by omega, hb1.alloc (by have := hb1.size; omega) _⟩
  have hL : lenR n P = n := by simp [lenR, h]
  rw [hL]
  have h' : 1 ≤ n ∧ n ≤ 24 ∧ eachB n P n = true := by simpa [okR] using h
  have HE : Hid (eachB n P n = true) := h'.2.2
  have h24 : n ≤ 24 := h'.2.1
  clear h' hL
  go_enter Try.func32, Try.ntmps32
  go_wp2_with (first | (go_at_call 72; refine (l3Each_any ao n cap P hn _ hr).mono ?_; rintro e w1 ⟨rfl, hb1⟩) | (go_at_call 73; refine (l3Ranks_any ao n cap P h24 HE.out _ (hr.below hb1 (Nat.le_refl _))).mono ?_; rintro e w2 ⟨rfl, hI, hb2⟩))
  go_ret
  exact ⟨_, _, rfl, fun _ => ⟨_, rfl, hb1.size, hI.congr (fun j hj => rk_same P 0 (-1) n j (each_all HE.out j hj))⟩, below_next hb1 (Nat.le_refl _) hb2⟩

end Go.Proofs.Ytdgnlpafmkhdjaa
