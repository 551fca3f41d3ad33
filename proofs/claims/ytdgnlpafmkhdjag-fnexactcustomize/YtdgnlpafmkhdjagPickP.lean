/-
  The block of a list that is answered, whether it is empty or not.
-/
import Derived.Test.YtdgnlpafmkhdjagPack5
set_option linter.unusedVariables false
set_option linter.unusedSimpArgs false
namespace Go.Proofs.Ytdgnlpafmkhdjag
open Go.RowKit

theorem pick1 {w W : World} {ao : Option Addr} {m : Nat} {R : Nat → Prop} (h : 0 < m → ∃ g, ao = some ⟨g, 0, none⟩ ∧ w.heap.size ≤ g ∧ R g) (l : ∀ g, R g → g < W.heap.size) :
    ∃ b, (0 < m → ao = some ⟨b, 0, none⟩) ∧ (0 < m → R b) ∧ w.heap.size ≤ b ∧ (0 < m → b < W.heap.size) := by
  by_cases hm : 0 < m
  · obtain ⟨g, e, hg, hR⟩ := h hm
    exact ⟨g, fun _ => e, fun _ => hR, hg, fun _ => l g hR⟩
  · exact ⟨w.heap.size, fun h => absurd h hm, fun h => absurd h hm, Nat.le_refl _, fun h => absurd h hm⟩

/-- The two blocks of a metric that is answered, whether it is empty or not. -/
theorem pickM {w W : World} {ao eo : Option Addr} {m : Nat} {R S : Nat → Prop} (h : 0 < m → ∃ b c, ao = some ⟨b, 0, none⟩ ∧ eo = some ⟨c, 0, none⟩ ∧ w.heap.size ≤ b ∧ w.heap.size ≤ c ∧ b ≠ c ∧ R b ∧ S c) (l1 : ∀ g, R g → g < W.heap.size) (l2 : ∀ g, S g → g < W.heap.size) (hs : w.heap.size + 2 ≤ W.heap.size) :
    ∃ b c, (0 < m → ao = some ⟨b, 0, none⟩) ∧ (0 < m → R b) ∧ (0 < m → eo = some ⟨c, 0, none⟩) ∧ (0 < m → S c) ∧ (w.heap.size ≤ b ∧ b < W.heap.size) ∧ (w.heap.size ≤ c ∧ c < W.heap.size) ∧ b ≠ c := by
  by_cases hm : 0 < m
  · obtain ⟨b, c, e1, e2, g1, g2, hne, hR, hS⟩ := h hm
    exact ⟨b, c, fun _ => e1, fun _ => hR, fun _ => e2, fun _ => hS, ⟨g1, l1 b hR⟩, ⟨g2, l2 c hS⟩, hne⟩
  · exact ⟨w.heap.size, w.heap.size + 1, fun h => absurd h hm, fun h => absurd h hm, fun h => absurd h hm, fun h => absurd h hm, ⟨by omega, by omega⟩, ⟨by omega, by omega⟩, by omega⟩

end Go.Proofs.Ytdgnlpafmkhdjag
