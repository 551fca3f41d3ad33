/-
  What Recustomize answers, for the law.
-/
import Derived.Test.YtmnohgcjdhokdahRecAP
set_option linter.unusedVariables false
set_option linter.unusedSimpArgs false
namespace Go.Proofs.Ytmnohgcjdhokdah
open Go.RowKit

theorem isRec_is (p : Int) (n : Nat) (F T G : Nat → Int) (k : Nat) (P : Nat → Int) (m : Nat) (L H : Nat → Int) (u : Nat) (U : Nat → Int) (v : Nat) (V : Nat → Int) (s : Nat) (A B C : Nat → Int) (hn : n ≤ 1048576) (hm : m ≤ 1048576) :
    ∃ p' n' H' m' CU CD ok, IsRec p n F T G k P m L H u U v V s A B C p' n' H' m' CU CD ok ∧ n' ≤ n ∧ m' ≤ m := by
  by_cases h : resOf p n F T G s A B C ≠ none ∧ RcOk p n F T G k P m L H u U v V true
  · cases hr : resOf p n F T G s A B C with
    | none => exact absurd hr h.1
    | some H' => exact ⟨p, n, H', m, _, _, true, .inl ⟨hr, h.2, rfl, rfl, rfl, rfl, rfl⟩, Nat.le_refl _, Nat.le_refl _⟩
  · exact ⟨0, 0, G, 0, G, G, false, .inr ⟨h, rfl, rfl, rfl, rfl⟩, by omega, by omega⟩

end Go.Proofs.Ytmnohgcjdhokdah
