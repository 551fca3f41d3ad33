/-
  What the exact laws' own helpers do with arcs and maps of the law's own: each number is marked.
-/
import Derived.Test.YtmnohgcjdhokdaeDoorOkP
import Derived.Test.YtmnohgcjdhokdaeDoorMark
import Derived.Test.YtmnohgcjdhokdaeDoorOpen
import Derived.Test.YtmnohgcjdhokdaeDoorHasA
set_option linter.unusedVariables false
set_option linter.unusedSimpArgs false
namespace Go.Proofs.YtmnohgcjdhokdaeDoor
open Go.RowKit Go.Maps

theorem markGraph_any (p : Int) (b n cap : Nat) (f : Nat → Int) (k : Int) (hk0 : 0 ≤ k) (hk1 : k ≤ 4000000) (hn : n ≤ 1048576) (w : World) (h : 0 < n → Has w b n f) (ao : Option Addr) (hao : 0 < n → ao = some ⟨b, 0, none⟩) :
    Calls Tryd.prog 12 #[.agg #[.int .i64 p, .slice ao n cap], .int .i64 k] w fun e w' => e = .returned (.int .i64 (k + 3 * n)) ∧ (0 < n → Has w' b n (mk k)) ∧ w.grownBy w' (some b) := by
  go_enter Tryd.func12, Tryd.ntmps12
  go_wp2_with (go_at_call 25; refine (markArcS_any b n cap f k hk0 hk1 hn _ (fun hp => (h hp).below ((Below.refl w.heap.size w).alloc (Nat.le_refl _) _) (h hp).lt) ao hao).mono ?_; rintro e w1 ⟨rfl, hh, hg⟩)
  go_ret
  exact ⟨rfl, hh, grown_unbox hg⟩

end Go.Proofs.YtmnohgcjdhokdaeDoor
