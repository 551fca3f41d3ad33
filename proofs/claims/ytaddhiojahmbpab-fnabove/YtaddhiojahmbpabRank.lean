/-
  Ranks, the plain part: which numbers were seen, each number's place in a list, and that a list of n numbers below n, none twice, has them all.
-/
import Derived.Test.YtaddhiojahmbpabInts
set_option linter.unusedVariables false
set_option linter.unusedSimpArgs false
namespace Go.Proofs.Ytaddhiojahmbpab

/-- Was q among the first k numbers? -/
def sn (P : Nat → Int) : Nat → Nat → Bool
  | 0, _ => false
  | k + 1, q => (P k == (q : Int)) || sn P k q
theorem sn_succ (P : Nat → Int) (k q : Nat) : sn P (k + 1) q = ((P k == (q : Int)) || sn P k q) := rfl
/-- The last place among the first k at which q stands, else z. -/
def rk (P : Nat → Int) (z : Int) : Nat → Nat → Int
  | 0, _ => z
  | k + 1, q => if P k = (q : Int) then (k : Int) else rk P z k q
/-- The first k numbers are below m, none twice. -/
def eachB (m : Nat) (P : Nat → Int) : Nat → Bool
  | 0 => true
  | k + 1 => eachB m P k && (inB (P k) 0 ((m : Int) - 1) && !sn P k (P k).toNat)

theorem rk_sn (P : Nat → Int) : ∀ k q, (sn P k q = true ↔ 0 ≤ rk P (-1) k q)
  | 0, q => by simp [sn, rk]
  | k + 1, q => by
    unfold sn rk
    have := rk_sn P k q
    by_cases h : P k = (q : Int)
    · simp [h]
    · simp [h, this]
theorem rk_same (P : Nat → Int) (z z' : Int) : ∀ k q, sn P k q = true → rk P z k q = rk P z' k q
  | 0, q, h => by simp [sn] at h
  | k + 1, q, h => by
    unfold sn at h
    unfold rk
    by_cases e : P k = (q : Int)
    · simp [e]
    · rw [if_neg e, if_neg e]
      exact rk_same P z z' k q (by simpa [e] using h)
theorem rk_hi (P : Nat → Int) : ∀ k q, rk P (-1) k q < (k : Int) ∧ -1 ≤ rk P (-1) k q
  | 0, q => by simp [rk]
  | k + 1, q => by
    unfold rk
    have := rk_hi P k q
    split <;> omega
theorem eachB_le {m : Nat} {P : Nat → Int} : ∀ n, eachB m P n = true → ∀ k, k ≤ n → eachB m P k = true
  | 0, h, k, hk => by
    have : k = 0 := by omega
    subst this; rfl
  | n + 1, h, k, hk => by
    by_cases e : k = n + 1
    · subst e; exact h
    · simp [eachB] at h
      exact eachB_le n h.1 k (by omega)
theorem eachB_no {m : Nat} {P : Nat → Int} {k n : Nat} (h : eachB m P (k + 1) = false) (hk : k < n) : eachB m P n = false := by
  cases hn : eachB m P n
  · rfl
  · rw [eachB_le n hn (k + 1) (by omega)] at h; cases h

theorem sn_at {P : Nat → Int} {k q : Nat} (h : P k = (q : Int)) (j : Nat) : sn P (k + 1) j = if j = q then true else sn P k j := by
  rw [sn_succ, h]
  by_cases e : j = q
  · simp [e]
  · have h1 : ((q : Int) == (j : Int)) = false := by rw [Bool.eq_false_iff]; simp; omega
    rw [h1, if_neg e]; rfl
theorem rk_at {P : Nat → Int} {z : Int} {k q : Nat} (h : P k = (q : Int)) (j : Nat) : rk P z (k + 1) j = if j = q then (k : Int) else rk P z k j := by
  show (if P k = (j : Int) then (k : Int) else rk P z k j) = _
  by_cases e : j = q
  · rw [if_pos e, if_pos (by omega)]
  · rw [if_neg e, if_neg (by omega)]
theorem eachB_at {m : Nat} {P : Nat → Int} {k q : Nat} (he : eachB m P k = true) (h : P k = (q : Int)) (hi : inB (P k) 0 ((m : Int) - 1) = true) : eachB m P (k + 1) = !sn P k q := by
  show (eachB m P k && (inB (P k) 0 ((m : Int) - 1) && !sn P k (P k).toNat)) = _
  rw [he, hi, h]
  simp

/-- How many of the first n are there. -/
def cntB (f : Nat → Bool) : Nat → Nat
  | 0 => 0
  | n + 1 => cntB f n + (if f n then 1 else 0)
theorem cntB_le (f : Nat → Bool) : ∀ n, cntB f n ≤ n
  | 0 => Nat.le_refl _
  | n + 1 => by unfold cntB; have := cntB_le f n; split <;> omega
theorem cntB_congr {f g : Nat → Bool} : ∀ n, (∀ q, q < n → f q = g q) → cntB f n = cntB g n
  | 0, _ => rfl
  | n + 1, h => by unfold cntB; rw [cntB_congr n (fun q hq => h q (by omega)), h n (by omega)]
theorem cntB_full {f : Nat → Bool} : ∀ n, cntB f n = n → ∀ q, q < n → f q = true
  | 0, _, q, hq => by omega
  | n + 1, h, q, hq => by
    unfold cntB at h
    have hl := cntB_le f n
    cases hf : f n
    · rw [hf] at h; simp at h; omega
    · rw [hf] at h
      simp at h
      by_cases e : q = n
      · subst e; exact hf
      · exact cntB_full n (by omega) q (by omega)
theorem cntB_set {f g : Nat → Bool} {i : Nat} : ∀ n, i < n → f i = false → (∀ q, q < n → g q = (q == i || f q)) → cntB g n = cntB f n + 1
  | 0, hi, _, _ => by omega
  | n + 1, hi, h0, hg => by
    unfold cntB
    rw [hg n (by omega)]
    by_cases e : i = n
    · subst e
      have e2 : cntB g i = cntB f i := cntB_congr i (fun q hq => by
        rw [hg q (by omega)]
        have : q ≠ i := by omega
        simp [this])
      rw [e2, h0]
      simp
    · have : n ≠ i := fun h => e h.symm
      rw [cntB_set n (by omega) h0 (fun q hq => hg q (by omega))]
      simp [this]; omega
theorem cntB_less {f : Nat → Bool} {i n : Nat} (hi : i < n) (h : f i = false) : cntB f n < n := by
  have h1 := cntB_le f n
  by_cases e : cntB f n = n
  · have := cntB_full n e i hi
    rw [h] at this; cases this
  · omega

theorem cnt_sn {m : Nat} {P : Nat → Int} : ∀ k, eachB m P k = true → cntB (sn P k) m = k
  | 0, _ => by
    have : ∀ n, cntB (sn P 0) n = 0 := fun n => by
      induction n with
      | zero => rfl
      | succ n ih => unfold cntB; rw [ih]; simp [sn]
    exact this m
  | k + 1, h => by
    simp [eachB, inB] at h
    obtain ⟨h1, ⟨h2, h3⟩, h4⟩ := h
    have := cnt_sn k h1
    have e := cntB_set (f := sn P k) (g := sn P (k + 1)) (i := (P k).toNat) m (by omega) h4 (fun q hq => by
      rw [sn_succ]
      congr 1
      rw [Bool.eq_iff_iff, beq_iff_eq, beq_iff_eq]
      omega)
    omega
theorem each_all {n : Nat} {P : Nat → Int} (h : eachB n P n = true) : ∀ q, q < n → sn P n q = true := cntB_full n (cnt_sn n h)

/-- The length of what Ranks answers. -/
def okR (n : Nat) (P : Nat → Int) : Bool := decide (1 ≤ n) && (decide (n ≤ 24) && eachB n P n)
def lenR (n : Nat) (P : Nat → Int) : Nat := if okR n P then n else 0
theorem lenR_le (n : Nat) (P : Nat → Int) : lenR n P ≤ 24 := by
  unfold lenR
  split
  · next h => simp [okR] at h; omega
  · omega

end Go.Proofs.Ytaddhiojahmbpab
