/-
  A place being taken away by the program, the plain part: which pairs are joined while its neighbours go one by one.
-/
import Derived.Test.YtaddhiojahmbpabVis
set_option linter.unusedVariables false
set_option linter.unusedSimpArgs false
namespace Go.Proofs.Ytaddhiojahmbpab

/-- Nobody beyond the places. -/
def Within (p : Nat) (B : Nat → Nat → Bool) : Prop := ∀ x y, B x y = true → x < p ∧ y < p
theorem within_nbA {F T : Nat → Int} {p : Nat} : ∀ n, (∀ k, k < n → (F k).toNat < p ∧ (T k).toNat < p) → Within p (nbA F T n)
  | 0, _, x, y, h => by simp [nbA] at h
  | n + 1, hk, x, y, h => by
    have h' : upd2 (nbA F T n) (F n).toNat (T n).toNat true x y = true := h
    rw [upd2_at] at h'
    have := hk n (by omega)
    by_cases e : (x = (F n).toNat ∧ y = (T n).toNat) ∨ (x = (T n).toNat ∧ y = (F n).toNat)
    · omega
    · rw [if_neg e] at h'
      exact within_nbA n (fun k hk' => hk k (by omega)) x y h'
theorem within_tk {p : Nat} {B : Nat → Nat → Bool} (h : Within p B) (a : Nat) : Within p (tk B a) := fun x y hx => by
  unfold tk at hx
  split at hx
  · cases hx
  · simp at hx
    rcases hx with hx | ⟨h1, h2, _⟩
    · exact h x y hx
    · exact ⟨(h a x h1).2, (h a y h2).2⟩
theorem within_run3 {p : Nat} {B : Nat → Nat → Bool} (h : Within p B) : ∀ k, Within p (run3 p B k).1
  | 0 => h
  | k + 1 => within_tk (within_run3 h k) _

/-- Those in the list are parted from a and joined with all its neighbours. -/
def stI (B : Nat → Nat → Bool) (a : Nat) (pre : List Nat) : Nat → Nat → Bool := fun x y =>
  if x = a then B a y && !pre.contains y else if y = a then B a x && !pre.contains x
  else B x y || (x != y && (B a x && (B a y && (pre.contains x || pre.contains y))))
/-- Besides, q is parted from a and joined with those of the second list. -/
def stJ (B : Nat → Nat → Bool) (a : Nat) (pre : List Nat) (q : Nat) (pre' : List Nat) : Nat → Nat → Bool := fun x y =>
  if x = a then B a y && !(pre ++ [q]).contains y else if y = a then B a x && !(pre ++ [q]).contains x
  else B x y || ((x != y && (B a x && (B a y && (pre.contains x || pre.contains y)))) || ((x == q && pre'.contains y) || (y == q && pre'.contains x)))
theorem contains_snoc (l : List Nat) (q x : Nat) : (l ++ [q]).contains x = (l.contains x || x == q) := by
  rw [Bool.eq_iff_iff]
  simp
theorem stI_row (B : Nat → Nat → Bool) (a : Nat) (pre : List Nat) : stI B a pre a = fun j => B a j && !pre.contains j := by
  funext j; unfold stI; rw [if_pos rfl]
theorem stJ_row (B : Nat → Nat → Bool) (a : Nat) (pre : List Nat) (q : Nat) (pre' : List Nat) : stJ B a pre q pre' a = fun j => B a j && !(pre ++ [q]).contains j := by
  funext j; unfold stJ; rw [if_pos rfl]
theorem stI_start {B : Nat → Nat → Bool} (hB : Fair B) (a x y : Nat) : stI B a [] x y = B x y := by
  unfold stI
  by_cases h1 : x = a
  · subst h1; simp
  · rw [if_neg h1]
    by_cases h2 : y = a
    · subst h2; simp [hB.1 x y]
    · rw [if_neg h2]; simp
theorem stI_part (B : Nat → Nat → Bool) {a q : Nat} (pre : List Nat) (hq : q ≠ a) (x y : Nat) : upd2 (stI B a pre) a q false x y = stJ B a pre q [] x y := by
  rw [upd2_at]
  unfold stI stJ
  rw [contains_snoc, contains_snoc]
  by_cases h1 : x = a
  · rw [if_pos h1, if_pos h1]
    by_cases h2 : y = q
    · subst h2; rw [if_pos (Or.inl ⟨h1, rfl⟩)]; simp
    · rw [if_neg (by omega)]
      have : (y == q) = false := by simpa using h2
      rw [this]; simp
  · rw [if_neg h1, if_neg h1]
    by_cases h2 : y = a
    · rw [if_pos h2, if_pos h2]
      by_cases h3 : x = q
      · subst h3; rw [if_pos (Or.inr ⟨rfl, h2⟩)]; simp
      · rw [if_neg (by omega)]
        have : (x == q) = false := by simpa using h3
        rw [this]; simp
    · rw [if_neg (by omega), if_neg h2, if_neg h2]; simp
theorem stJ_join (B : Nat → Nat → Bool) {a q b : Nat} (pre pre' : List Nat) (hq : q ≠ a) (hb : b ≠ a) (x y : Nat) : upd2 (stJ B a pre q pre') q b true x y = stJ B a pre q (pre' ++ [b]) x y := by
  rw [upd2_at]
  by_cases e : (x = q ∧ y = b) ∨ (x = b ∧ y = q)
  · rw [if_pos e]
    unfold stJ
    rw [if_neg (by omega), if_neg (by omega), contains_snoc, contains_snoc]
    rcases e with ⟨rfl, rfl⟩ | ⟨rfl, rfl⟩ <;> simp
  · rw [if_neg e]
    unfold stJ
    rw [contains_snoc pre', contains_snoc pre']
    by_cases h1 : x = a
    · rw [if_pos h1, if_pos h1]
    · rw [if_neg h1, if_neg h1]
      by_cases h2 : y = a
      · rw [if_pos h2, if_pos h2]
      · rw [if_neg h2, if_neg h2]
        have e1 : (x == q && (pre'.contains y || y == b)) = (x == q && pre'.contains y) := by
          by_cases hx : x = q
          · have hy : y ≠ b := fun h => e (Or.inl ⟨hx, h⟩)
            have : (y == b) = false := by simpa using hy
            rw [this]; simp
          · have : (x == q) = false := by simpa using hx
            rw [this]; simp
        have e2 : (y == q && (pre'.contains x || x == b)) = (y == q && pre'.contains x) := by
          by_cases hy : y = q
          · have hx : x ≠ b := fun h => e (Or.inr ⟨h, hy⟩)
            have : (x == b) = false := by simpa using hx
            rw [this]; simp
          · have : (y == q) = false := by simpa using hy
            rw [this]; simp
        rw [e1, e2]
theorem visF_contains (f : Nat → Bool) (p x : Nat) : (visF f p).contains x = (decide (x < p) && f x) := by
  rw [Bool.eq_iff_iff]
  simp [visF_mem]
theorem stJ_end {B : Nat → Nat → Bool} {p a q : Nat} {pre : List Nat} (hW : Within p B) (hq : B a q = true) (x y : Nat) : stJ B a pre q (visF (fun j => B a j && !(pre ++ [q]).contains j) p) x y = stI B a (pre ++ [q]) x y := by
  unfold stI stJ
  rw [visF_contains, visF_contains, contains_snoc, contains_snoc]
  by_cases h1 : x = a
  · rw [if_pos h1, if_pos h1]
  · rw [if_neg h1, if_neg h1]
    by_cases h2 : y = a
    · rw [if_pos h2, if_pos h2]
    · rw [if_neg h2, if_neg h2]
      have wx : B a x = true → decide (x < p) = true := fun h => by simpa using (hW a x h).2
      have wy : B a y = true → decide (y < p) = true := fun h => by simpa using (hW a y h).2
      congr 1
      by_cases hx : x = q
      · by_cases hy : y = q
        · subst hx hy; simp
        · have e1 : (x == q) = true := by simpa using hx
          have e2 : (y == q) = false := by simpa using hy
          have e3 : (x != y) = true := by simp; omega
          have e4 : B a x = true := by rw [hx]; exact hq
          rw [e1, e2, e3, e4]
          cases hby : B a y
          · simp
          · rw [wy hby]
            cases pre.contains y <;> simp
      · by_cases hy : y = q
        · have e1 : (x == q) = false := by simpa using hx
          have e2 : (y == q) = true := by simpa using hy
          have e3 : (x != y) = true := by simp; omega
          have e4 : B a y = true := by rw [hy]; exact hq
          rw [e1, e2, e3, e4]
          cases hbx : B a x
          · simp
          · rw [wx hbx]
            cases pre.contains x <;> simp
        · have e1 : (x == q) = false := by simpa using hx
          have e2 : (y == q) = false := by simpa using hy
          rw [e1, e2]; simp
theorem stI_end {B : Nat → Nat → Bool} {p a : Nat} (hW : Within p B) (x y : Nat) : stI B a (visF (B a) p) x y = tk B a x y := by
  unfold stI tk
  rw [visF_contains, visF_contains]
  have wx : (decide (x < p) && B a x) = B a x := by
    cases h : B a x
    · simp
    · have := (hW a x h).2
      simp [this]
  have wy : (decide (y < p) && B a y) = B a y := by
    cases h : B a y
    · simp
    · have := (hW a y h).2
      simp [this]
  rw [wx, wy]
  by_cases h1 : x = a
  · rw [if_pos h1, if_pos (Or.inl h1)]; simp
  · rw [if_neg h1]
    by_cases h2 : y = a
    · rw [if_pos h2, if_pos (Or.inr h2)]; simp
    · rw [if_neg h2, if_neg (fun h => by rcases h with h | h; exact h1 h; exact h2 h)]
      congr 1
      cases B a x <;> cases B a y <;> simp
/-- What comes while those that came are struck out is what would have come. -/
theorem vis_struck (f : Nat → Bool) : ∀ k, vis (fun pre j => f j && !pre.contains j) k = visF f k
  | 0 => rfl
  | k + 1 => by
    have ih := vis_struck f k
    have hb : (f k && !(visF f k).contains k) = f k := by
      rw [visF_contains]; simp
    show (if f k && !(vis (fun pre j => f j && !pre.contains j) k).contains k then vis (fun pre j => f j && !pre.contains j) k ++ [k] else vis (fun pre j => f j && !pre.contains j) k) = (if f k then visF f k ++ [k] else visF f k)
    rw [ih, hb]

end Go.Proofs.Ytaddhiojahmbpab
