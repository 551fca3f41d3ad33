/-
  The program's map of arc numbers, walked: it holds the number of each arc at its ends.
-/
import Derived.Test.YthcgibpiogmmdaaMap
set_option linter.unusedVariables false
set_option linter.unusedSimpArgs false
namespace Go.Proofs.Ythcgibpiogmmdaa
open Go.RowKit Go.Maps

set_option maxHeartbeats 1000000 in
theorem arcNumbers_any (p : Int) (ao : Option Addr) (n cap : Nat) (F T G : Nat → Int) (hn : n ≤ 1048576) (hwf : WfTo F T n) (w : World) (hr : Row w ao n F T G) :
    Calls Try.prog 45 #[.agg #[.int .i64 p, .slice ao n cap]] w fun e w' => e = .returned (.map (some (w.heap.size + 1))) ∧ w'.ownsMap Try.prog 67 (plainElem Try.prog 3) (w.heap.size + 1) n (nums F T n) ∧ Below w.heap.size w w' := by
  have hmk := make_map n
  go_enter Try.func45, Try.ntmps45
  go_wp2
  clear hmk
  go_loopw [13] (fun i wr => ∃ k : Nat, k ≤ n ∧ i = .int .i64 k ∧ wr.ownsMap Try.prog 67 (plainElem Try.prog 3) (w.heap.size + 1) k (nums F T k) ∧ Below (w.heap.size + 1) (w.alloc (.cells #[.int .i64 p, .slice ao n cap] 26)) wr) (fun i _ => n - (intOf i).toNat)
  case atStart => exact ⟨0, Nat.zero_le _, rfl, by simpa [nums] using World.ownsMap_made (w.alloc (.cells #[.int .i64 p, .slice ao n cap] 26)) Try.prog 67 (plainElem (H := Unit) Try.prog 3), (Below.refl _ _).alloc (by simp) _⟩
  case round =>
    obtain ⟨k, hk, rfl, hown, hbel⟩ := hrel
    have hsz : w.heap.size + 1 < wr.heap.size := hown.lt
    by_cases hlt : k < n
    rotate_left
    · have hkn : k = n := by omega
      subst hkn
      go_wp2
      go_ret
      exact ⟨rfl, hown, unbox hbel (by omega)⟩
    obtain ⟨b, o, hao, c0, c1, c2⟩ := ((hr.alloc _).below hbel (by simp)) k hlt
    subst hao
    have hkey := key_ends (F k) (T k) (hwf k hlt).1 (hwf k hlt).2
    go_wp2_with (first | (go_at_call 46; refine (endsOf_any _ _ _ _).mono ?_; rintro e w1 ⟨rfl, hb1⟩; have hown1 := ownsMap_below (hown.alloc _) hb1) | (at_mapUpdate; refine wpList_mapUpdate_own _ rfl _ _ _ 63 rfl 67 3 Try.keyLaw Try.underlying63 _ (w.heap.size + 1) k _ rfl hown1 (by unfold maxLen; omega) _ _ _ rfl rfl hkey _ [] (plainElem_int Try.underlying3 (WalkArith.wf_i64 (by omega))) ?_; intro w2 hown2 hgrow2))
    go_wp2
    go_roundw
    case rel => exact ⟨k + 1, by omega, by go_num, hown2, (below_next (hbel.alloc (by omega) _) (by simp) hb1).grown hgrow2 (by have := hb1.size; simp at this; omega) (fun j hj => by cases hj; exact Nat.le_refl _)⟩
    case measure => simp [intOf]; omega

end Go.Proofs.Ythcgibpiogmmdaa
