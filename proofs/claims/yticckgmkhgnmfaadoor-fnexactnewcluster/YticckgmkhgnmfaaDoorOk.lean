/-
  GraphOk: the document's and the program's, each held against one plain function of the arcs.
-/
import Derived.Test.YticckgmkhgnmfaaDoorSmall
import Derived.Test.YticckgmkhgnmfaaDoorIn
set_option linter.unusedVariables false
set_option linter.unusedSimpArgs false
namespace Go.Proofs.YticckgmkhgnmfaaDoor
open Go.RowKit

def arcB (f t g p : Int) : Bool := inB f 0 (p - 1) && (inB t 0 (p - 1) && (f != t && inB g 1 1000000))
def arcsB (p : Int) (F T G : Nat → Int) : Nat → Bool
  | 0 => true
  | k + 1 => arcsB p F T G k && (arcB (F k) (T k) (G k) p && (k == 0 || upB (F (k - 1)) (T (k - 1)) (F k) (T k)))
def graphB (p : Int) (n : Nat) (F T G : Nat → Int) : Bool := inB p 1 24 && (decide (n ≤ 100) && arcsB p F T G n)
set_option maxHeartbeats 800000 in
theorem l1Arc_any (f t g p : Int) (hp : 1 ≤ p) (hp' : p ≤ 24) (w : World) :
    Calls Tryd.prog 54 #[.agg #[.int .i64 f, .int .i64 t, .int .i64 g], .int .i64 p] w fun e w' => e = .returned (.bool (arcB f t g p)) ∧ Below w.heap.size w w' := by
  unfold arcB
  rcases Bool.eq_false_or_eq_true (inB f 0 (p - 1)) with h1 | h1
  · rcases Bool.eq_false_or_eq_true (inB t 0 (p - 1)) with h2 | h2
    · rcases Bool.eq_false_or_eq_true (f != t) with h3 | h3 <;>
      · go_enter Tryd.func54, Tryd.ntmps54
        go_wp2_with (go_at_call 21; refine (l1In_any _ _ _ _).mono ?_; rintro e w1 ⟨rfl, rfl⟩)
        go_ret
        exact ⟨by simp [h1, h2, h3], (Below.refl _ _).alloc (Nat.le_refl _) _⟩
    · go_enter Tryd.func54, Tryd.ntmps54
      go_wp2_with (go_at_call 21; refine (l1In_any _ _ _ _).mono ?_; rintro e w1 ⟨rfl, rfl⟩)
      go_ret
      exact ⟨by simp [h1, h2], (Below.refl _ _).alloc (Nat.le_refl _) _⟩
  · go_enter Tryd.func54, Tryd.ntmps54
    go_wp2_with (go_at_call 21; refine (l1In_any _ _ _ _).mono ?_; rintro e w1 ⟨rfl, rfl⟩)
    go_ret
    exact ⟨by simp [h1], (Below.refl _ _).alloc (Nat.le_refl _) _⟩

end Go.Proofs.YticckgmkhgnmfaaDoor
