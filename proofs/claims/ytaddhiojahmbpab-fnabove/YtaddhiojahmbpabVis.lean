/-
  Whom an iterator visits: the plain part.
-/
import Derived.Test.YtaddhiojahmbpabNbrs
import Derived.Sort.QuietIn
set_option linter.unusedVariables false
set_option linter.unusedSimpArgs false
namespace Go.Proofs.Ytaddhiojahmbpab



/-- The places that have come when k have been looked at; 'bits' tells the row when a list has come. -/
def vis (bits : List Nat → Nat → Bool) : Nat → List Nat
  | 0 => []
  | k + 1 => if bits (vis bits k) k then vis bits k ++ [k] else vis bits k
/-- Those of the first k that are there. -/
def visF (f : Nat → Bool) (k : Nat) : List Nat := vis (fun _ => f) k
theorem visF_len (f : Nat → Bool) : ∀ k, (visF f k).length = cntB f k
  | 0 => rfl
  | k + 1 => by
    show (if f k then visF f k ++ [k] else visF f k).length = cntB f k + _
    have := visF_len f k
    split <;> simp_all
theorem visF_mem (f : Nat → Bool) : ∀ k x, x ∈ visF f k ↔ x < k ∧ f x = true
  | 0, x => by simp [visF, vis]
  | k + 1, x => by
    show x ∈ (if f k then visF f k ++ [k] else visF f k) ↔ _
    have := visF_mem f k x
    by_cases h : f k = true
    · rw [if_pos h, List.mem_append, this, List.mem_singleton]
      constructor
      · rintro (⟨h1, h2⟩ | rfl)
        · exact ⟨by omega, h2⟩
        · exact ⟨by omega, h⟩
      · rintro ⟨h1, h2⟩
        by_cases e : x = k
        · exact .inr e
        · exact .inl ⟨by omega, h2⟩
    · rw [if_neg h, this]
      constructor
      · rintro ⟨h1, h2⟩
        exact ⟨by omega, h2⟩
      · rintro ⟨h1, h2⟩
        refine ⟨?_, h2⟩
        by_cases e : x = k
        · subst e; exact absurd h2 h
        · omega

end Go.Proofs.Ytaddhiojahmbpab
