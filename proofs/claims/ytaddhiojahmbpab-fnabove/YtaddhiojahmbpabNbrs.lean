/-
  The neighbours of a place as a list, the plain part: how many come ahead of a place, which is the i-th; the square while a place is being taken away.
-/
import Derived.Test.YtaddhiojahmbpabMesh
set_option linter.unusedVariables false
set_option linter.unusedSimpArgs false
namespace Go.Proofs.Ytaddhiojahmbpab

/-- The numbers below k that are there, in a list. -/
def nf (f : Nat → Bool) : Nat → (Nat → Int)
  | 0 => fun _ => 0
  | k + 1 => if f k then (fun j => if j = cntB f k then (k : Int) else nf f k j) else nf f k
theorem cntB_mono (f : Nat → Bool) {a b : Nat} (h : a ≤ b) : cntB f a ≤ cntB f b := by
  induction b with
  | zero => have : a = 0 := by omega
            subst this; exact Nat.le_refl _
  | succ b ih =>
    by_cases e : a = b + 1
    · subst e; exact Nat.le_refl _
    · have h1 := ih (by omega)
      have h2 : cntB f b ≤ cntB f (b + 1) := by
        show cntB f b ≤ cntB f b + _
        omega
      omega
theorem cntB_succ {f : Nat → Bool} {k : Nat} (h : f k = true) : cntB f (k + 1) = cntB f k + 1 := by simp [cntB, h]
theorem cntB_same {f : Nat → Bool} {k : Nat} (h : f k = false) : cntB f (k + 1) = cntB f k := by simp [cntB, h]
theorem cntB_inj {f : Nat → Bool} {x y : Nat} (hx : f x = true) (hy : f y = true) (h : cntB f x = cntB f y) : x = y := by
  rcases Nat.lt_trichotomy x y with hl | e | hl
  · have h1 := cntB_mono f (show x + 1 ≤ y by omega)
    rw [cntB_succ hx] at h1; omega
  · exact e
  · have h1 := cntB_mono f (show y + 1 ≤ x by omega)
    rw [cntB_succ hy] at h1; omega
theorem nf_at {f : Nat → Bool} : ∀ p i, i < cntB f p → ∃ q : Nat, q < p ∧ nf f p i = (q : Int) ∧ f q = true ∧ cntB f q = i
  | 0, i, h => by simp [cntB] at h
  | p + 1, i, h => by
    unfold nf
    cases hf : f p
    · rw [cntB_same hf] at h
      obtain ⟨q, h1, h2, h3⟩ := nf_at p i h
      exact ⟨q, by omega, by simpa using h2, h3⟩
    · rw [cntB_succ hf] at h
      simp only [if_true]
      by_cases e : i = cntB f p
      · exact ⟨p, by omega, by rw [if_pos e], hf, e.symm⟩
      · obtain ⟨q, h1, h2, h3⟩ := nf_at (f := f) p i (by omega)
        exact ⟨q, by omega, by rw [if_neg e]; exact h2, h3⟩

/-- Is x among the first i that are there? -/
def am (f : Nat → Bool) (i x : Nat) : Bool := f x && decide (cntB f x < i)
theorem am_zero (f : Nat → Bool) (x : Nat) : am f 0 x = false := by simp [am]
theorem am_succ {f : Nat → Bool} {i q : Nat} (hq : f q = true) (hc : cntB f q = i) (x : Nat) : am f (i + 1) x = (am f i x || x == q) := by
  unfold am
  by_cases e : x = q
  · subst e; simp [hq, hc]
  · cases hx : f x
    · have : (x == q) = false := by simpa using e
      simp [this]
    · have h1 : cntB f x ≠ i := fun h => e (cntB_inj hx hq (by omega))
      have h2 : (x == q) = false := by simpa using e
      rw [h2]
      simp; omega
theorem am_all {f : Nat → Bool} {p x : Nat} (hx : x < p) : am f (cntB f p) x = f x := by
  unfold am
  cases h : f x
  · rfl
  · have := cntB_mono f (show x + 1 ≤ p by omega)
    rw [cntB_succ h] at this
    simp; omega

/-- While a is being taken away: the first i of its neighbours are done; q is joined with the first k. -/
def mid (B : Nat → Nat → Bool) (a i q k : Nat) : Nat → Nat → Bool := fun x y =>
  if x = a then B a y && !am (B a) i y else if y = a then B a x && !am (B a) i x
  else B x y || ((am (B a) i x && (B a y && x != y)) || (x == q && (am (B a) k y && x != y)))
theorem mid_start {B : Nat → Nat → Bool} (hB : Fair B) (a q x y : Nat) : mid B a 0 q 0 x y = B x y := by
  unfold mid
  simp only [am_zero]
  split
  · next h => subst h; simp
  · split
    · next h => subst h; simp [hB.1 x y]
    · simp
theorem mid_skip {B : Nat → Nat → Bool} {a i q q' x y : Nat} : mid B a i q 0 x y = mid B a i q' 0 x y := by
  unfold mid
  simp only [am_zero]
  simp
theorem mid_join {B : Nat → Nat → Bool} (hB : Fair B) {a i q k q' : Nat} (hq : B a q = true) (hq' : B a q' = true) (hc : cntB (B a) q' = k) (hne : q ≠ q') (x y : Nat) : upd (mid B a i q k) q q' true x y = mid B a i q (k + 1) x y := by
  have ha : q ≠ a := fun e => by rw [e, hB.2] at hq; cases hq
  have ha' : q' ≠ a := fun e => by rw [e, hB.2] at hq'; cases hq'
  unfold upd
  by_cases e : x = q ∧ y = q'
  · obtain ⟨rfl, rfl⟩ := e
    rw [if_pos ⟨rfl, rfl⟩]
    unfold mid
    rw [if_neg ha, if_neg ha', am_succ hq' hc]
    have : (x != y) = true := by simpa using hne
    simp [this]
  · rw [if_neg e]
    unfold mid
    by_cases h1 : x = a
    · rw [if_pos h1, if_pos h1]
    · rw [if_neg h1, if_neg h1]
      by_cases h2 : y = a
      · rw [if_pos h2, if_pos h2]
      · rw [if_neg h2, if_neg h2, am_succ hq' hc]
        by_cases h3 : x = q
        · have h4 : (y == q') = false := by
            have : y ≠ q' := fun h => e ⟨h3, h⟩
            simpa using this
          rw [h4]; simp
        · have h4 : (x == q) = false := by simpa using h3
          rw [h4]; simp
theorem mid_pass {B : Nat → Nat → Bool} {a i q k : Nat} (hq : B a q = true) (hc : cntB (B a) q = k) (x y : Nat) : mid B a i q k x y = mid B a i q (k + 1) x y := by
  unfold mid
  rw [am_succ hq hc]
  by_cases h1 : x = a
  · rw [if_pos h1, if_pos h1]
  · rw [if_neg h1, if_neg h1]
    by_cases h2 : y = a
    · rw [if_pos h2, if_pos h2]
    · rw [if_neg h2, if_neg h2]
      by_cases h3 : x = q
      · by_cases h4 : y = q
        · subst h3 h4; simp
        · have : (y == q) = false := by simpa using h4
          rw [this]; simp
      · have h4 : (x == q) = false := by simpa using h3
        rw [h4]; simp
theorem mid_done {B : Nat → Nat → Bool} (hB : Fair B) {a i q p : Nat} (hq : B a q = true) (hc : cntB (B a) q = i) {x y : Nat} (hx : x < p) (hy : y < p) : upd (upd (mid B a i q (cntB (B a) p)) a q false) q a false x y = mid B a (i + 1) 0 0 x y := by
  have ha : q ≠ a := fun e => by rw [e, hB.2] at hq; cases hq
  have ha' : ¬ a = q := fun e => ha e.symm
  unfold upd
  by_cases e1 : x = q ∧ y = a
  · obtain ⟨rfl, rfl⟩ := e1
    rw [if_pos ⟨rfl, rfl⟩]
    unfold mid
    rw [if_neg ha, if_pos rfl, am_succ hq hc]; simp
  · rw [if_neg e1]
    by_cases e2 : x = a ∧ y = q
    · obtain ⟨rfl, rfl⟩ := e2
      rw [if_pos ⟨rfl, rfl⟩]
      unfold mid
      rw [if_pos rfl, am_succ hq hc]; simp
    · rw [if_neg e2]
      unfold mid
      rw [am_succ hq hc, am_succ hq hc, am_all hy]
      by_cases h1 : x = a
      · rw [if_pos h1, if_pos h1]
        have : (y == q) = false := by
          have : y ≠ q := fun h => e2 ⟨h1, h⟩
          simpa using this
        rw [this]; simp
      · rw [if_neg h1, if_neg h1]
        by_cases h2 : y = a
        · rw [if_pos h2, if_pos h2]
          have : (x == q) = false := by
            have : x ≠ q := fun h => e1 ⟨h, h2⟩
            simpa using this
          rw [this]; simp
        · rw [if_neg h2, if_neg h2, am_zero]
          cases am (B a) i x <;> cases (x == q) <;> simp
theorem mid_end {B : Nat → Nat → Bool} (hB : Fair B) {a p q x y : Nat} (hx : x < p) (hy : y < p) : mid B a (cntB (B a) p) q 0 x y = tk B a x y := by
  unfold mid tk
  rw [am_all hx, am_all hy, am_zero]
  by_cases h1 : x = a
  · rw [if_pos h1, if_pos (Or.inl h1)]; simp
  · rw [if_neg h1]
    by_cases h2 : y = a
    · rw [if_pos h2, if_pos (Or.inr h2)]; simp
    · rw [if_neg h2, if_neg (fun h => by rcases h with h | h; exact h1 h; exact h2 h)]; simp

end Go.Proofs.Ytaddhiojahmbpab
