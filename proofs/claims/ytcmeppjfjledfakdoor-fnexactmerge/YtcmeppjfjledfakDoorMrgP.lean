/-
  What a merge is, plainly: how many entries agree, and what comes of it.
-/
import Derived.Test.YtcmeppjfjledfakDoorLogU
set_option linter.unusedVariables false
set_option linter.unusedSimpArgs false
namespace Go.Proofs.YtcmeppjfjledfakDoor

/-- The first number below m at which f says no; m if there is none. -/
def ag (f : Nat → Bool) : Nat → Nat
  | 0 => 0
  | m + 1 => if ag f m = m then (if f m = true then m + 1 else m) else ag f m
theorem ag_le (f : Nat → Bool) : ∀ m, ag f m ≤ m
  | 0 => Nat.le_refl _
  | m + 1 => by
    have := ag_le f m
    unfold ag
    split
    · split <;> omega
    · omega
theorem ag_yes (f : Nat → Bool) : ∀ m j, j < ag f m → f j = true
  | 0, j, h => by simp [ag] at h
  | m + 1, j, h => by
    have ih := ag_yes f m
    unfold ag at h
    split at h
    · rename_i e
      split at h
      · rename_i hf
        by_cases hj : j = m
        · rw [hj]; exact hf
        · exact ih j (by omega)
      · exact ih j (by omega)
    · exact ih j h
theorem ag_no (f : Nat → Bool) : ∀ m, ag f m < m → f (ag f m) = false
  | 0, h => by omega
  | m + 1, h => by
    have ih := ag_no f m
    have hl := ag_le f m
    unfold ag at h ⊢
    split at h
    · rename_i e
      split at h
      · omega
      · rename_i hf
        rw [if_pos e, if_neg hf]
        simpa using hf
    · rename_i e
      rw [if_neg e]
      exact ih (by omega)
theorem ag_is {f : Nat → Bool} {m k : Nat} (hk : k ≤ m) (hy : ∀ j, j < k → f j = true) (hn : k < m → f k = false) : ag f m = k := by
  have h1 := ag_le f m
  rcases Nat.lt_trichotomy (ag f m) k with h | h | h
  · have := ag_no f m (by omega)
    rw [hy _ h] at this
    cases this
  · exact h
  · have := ag_yes f m k h
    rw [hn (by omega)] at this
    cases this

/-- Does entry i + k of the log have the Term of the new entry k? -/
def agF (n : Nat) (T U : Nat → Int) (i k : Nat) : Bool := decide (i + k < n ∧ T (i + k) = U k)
/-- How many of the m new entries agree. -/
def agN (n : Nat) (T : Nat → Int) (i m : Nat) (U : Nat → Int) : Nat := ag (agF n T U i) m
/-- What lies at j behind the merge. -/
def mrg {α : Type} (k i : Nat) (T U : Nat → α) (j : Nat) : α := if j < i + k then T j else U (j - i)
/-- How many lie there. -/
def mN (n i m k : Nat) : Nat := if k < m then i + m else n
def mV {α : Type} (m k i : Nat) (T U : Nat → α) : Nat → α := if k < m then mrg k i T U else T
theorem mN_yes {n i m k : Nat} (h : k < m) : mN n i m k = i + m := if_pos h
theorem mN_no {n i m k : Nat} (h : ¬ k < m) : mN n i m k = n := if_neg h
theorem mV_yes {α : Type} {m k i : Nat} {T U : Nat → α} (h : k < m) : mV m k i T U = mrg k i T U := if_pos h
theorem mV_no {α : Type} {m k i : Nat} {T U : Nat → α} (h : ¬ k < m) : mV m k i T U = T := if_neg h

theorem agN_le (n : Nat) (T : Nat → Int) (i m : Nat) (U : Nat → Int) : agN n T i m U ≤ m := ag_le _ _
/-- Those that agree lie within the log. -/
theorem agN_in {n : Nat} {T : Nat → Int} {i m : Nat} {U : Nat → Int} (hi : i ≤ n) : i + agN n T i m U ≤ n := by
  rcases Nat.eq_zero_or_pos (agN n T i m U) with h | h
  · omega
  · have := ag_yes (agF n T U i) m (agN n T i m U - 1) (by unfold agN at h ⊢; omega)
    have h2 := of_decide_eq_true this
    omega

end Go.Proofs.YtcmeppjfjledfakDoor
