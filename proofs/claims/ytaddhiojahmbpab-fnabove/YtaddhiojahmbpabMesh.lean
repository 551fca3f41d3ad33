/-
  Who is whose neighbour, the plain part: the square of the arcs, a place that is taken away, which goes next.
-/
import Derived.Test.YtaddhiojahmbpabOkP
import Derived.Test.YtaddhiojahmbpabRank
set_option linter.unusedVariables false
set_option linter.unusedSimpArgs false
namespace Go.Proofs.Ytaddhiojahmbpab

/-- The square with one entry turned. -/
def upd (B : Nat → Nat → Bool) (x y : Nat) (v : Bool) : Nat → Nat → Bool := fun x' y' => if x' = x ∧ y' = y then v else B x' y'
def upd2 (B : Nat → Nat → Bool) (x y : Nat) (v : Bool) : Nat → Nat → Bool := upd (upd B x y v) y x v
theorem upd2_at (B : Nat → Nat → Bool) (x y : Nat) (v : Bool) (x' y' : Nat) : upd2 B x y v x' y' = if (x' = x ∧ y' = y) ∨ (x' = y ∧ y' = x) then v else B x' y' := by
  unfold upd2 upd
  by_cases h1 : x' = y ∧ y' = x
  · rw [if_pos h1, if_pos (Or.inr h1)]
  · rw [if_neg h1]
    by_cases h2 : x' = x ∧ y' = y
    · rw [if_pos h2, if_pos (Or.inl h2)]
    · rw [if_neg h2, if_neg (fun h => by rcases h with h | h; exact h2 h; exact h1 h)]
/-- Of the first k arcs. -/
def nbA (F T : Nat → Int) : Nat → Nat → Nat → Bool
  | 0 => fun _ _ => false
  | k + 1 => upd2 (nbA F T k) (F k).toNat (T k).toNat true
/-- Place a taken away. -/
def tk (B : Nat → Nat → Bool) (a : Nat) : Nat → Nat → Bool := fun x y => if x = a ∨ y = a then false else (B x y || (B a x && (B a y && x != y)))
/-- Both ways alike, none beside itself. -/
def Fair (B : Nat → Nat → Bool) : Prop := (∀ x y, B x y = B y x) ∧ ∀ x, B x x = false
theorem fair_nbA {F T : Nat → Int} : ∀ n, (∀ k, k < n → (F k).toNat ≠ (T k).toNat) → Fair (nbA F T n)
  | 0, _ => ⟨fun _ _ => rfl, fun _ => rfl⟩
  | n + 1, h => by
    obtain ⟨h1, h2⟩ := fair_nbA n (fun k hk => h k (by omega))
    have hne := h n (by omega)
    refine ⟨fun x y => ?_, fun x => ?_⟩
    · show upd2 _ _ _ _ _ _ = upd2 _ _ _ _ _ _
      rw [upd2_at, upd2_at, h1 x y]
      by_cases e : (x = (F n).toNat ∧ y = (T n).toNat) ∨ (x = (T n).toNat ∧ y = (F n).toNat)
      · rw [if_pos e, if_pos (by omega)]
      · rw [if_neg e, if_neg (by omega)]
    · show upd2 _ _ _ _ _ _ = _
      rw [upd2_at, if_neg (by omega), h2]
theorem fair_tk {B : Nat → Nat → Bool} (h : Fair B) (a : Nat) : Fair (tk B a) := by
  refine ⟨fun x y => ?_, fun x => ?_⟩
  · unfold tk
    by_cases e : x = a ∨ y = a
    · rw [if_pos e, if_pos e.symm]
    · rw [if_neg e, if_neg (fun h => e h.symm), h.1 x y]
      have : (x != y) = (y != x) := by
        rw [Bool.eq_iff_iff, bne_iff_ne, bne_iff_ne]
        exact ⟨fun h e => h e.symm, fun h e => h e.symm⟩
      rw [this]
      cases B a x <;> cases B a y <;> simp
  · unfold tk
    split
    · rfl
    · rw [h.2]; simp

/-- The one with the fewest neighbours among the first k that are not gone, and how many. -/
def pick (p : Nat) (B : Nat → Nat → Bool) (gone : Nat → Bool) : Nat → Nat × Nat
  | 0 => (0, p)
  | k + 1 => if gone k then pick p B gone k else if cntB (B k) p < (pick p B gone k).2 then (k, cntB (B k) p) else pick p B gone k
/-- Of the first k is none left. -/
def noneB (gone : Nat → Bool) : Nat → Bool
  | 0 => true
  | k + 1 => noneB gone k && gone k
theorem noneB_all {gone : Nat → Bool} : ∀ k, noneB gone k = true → cntB gone k = k
  | 0, _ => rfl
  | k + 1, h => by
    simp [noneB] at h
    unfold cntB
    rw [noneB_all k h.1, h.2]; rfl
theorem pick_none {p : Nat} {B : Nat → Nat → Bool} {gone : Nat → Bool} : ∀ k, noneB gone k = true → pick p B gone k = (0, p)
  | 0, _ => rfl
  | k + 1, h => by
    simp [noneB] at h
    unfold pick
    rw [if_pos h.2, pick_none k h.1]
theorem pick_le {p : Nat} {B : Nat → Nat → Bool} {gone : Nat → Bool} : ∀ k, (pick p B gone k).2 ≤ p
  | 0 => Nat.le_refl _
  | k + 1 => by
    unfold pick
    have := pick_le (p := p) (B := B) (gone := gone) k
    split
    · exact this
    · split
      · exact cntB_le _ _
      · exact this
theorem pick_some {p : Nat} {B : Nat → Nat → Bool} {gone : Nat → Bool} (hB : Fair B) : ∀ k, k ≤ p → noneB gone k = false → (pick p B gone k).1 < k ∧ gone (pick p B gone k).1 = false ∧ (pick p B gone k).2 < p
  | 0, _, h => by simp [noneB] at h
  | k + 1, hk, h => by
    have hc : cntB (B k) p < p := cntB_less (i := k) (by omega) (hB.2 k)
    unfold pick
    cases hg : gone k
    · simp only [Bool.false_eq_true, if_false]
      split
      · exact ⟨by simp, hg, hc⟩
      · next hlt =>
        cases hn : noneB gone k
        · have := pick_some (p := p) hB k (Nat.le_of_succ_le hk) hn
          exact ⟨by omega, this.2⟩
        · rw [pick_none k hn] at hlt
          simp at hlt
          omega
    · simp only [if_true]
      have : noneB gone k = false := by
        cases hn : noneB gone k
        · rfl
        · simp [noneB, hn, hg] at h
      have := pick_some (p := p) hB k (Nat.le_of_succ_le hk) this
      exact ⟨by omega, this.2⟩

/-- What stands when k places have been taken away: the square, those that are gone, the list. -/
def goneU (gone : Nat → Bool) (a : Nat) : Nat → Bool := fun q => if q = a then true else gone q
def run3 (p : Nat) (B : Nat → Nat → Bool) : Nat → (Nat → Nat → Bool) × (Nat → Bool) × (Nat → Int)
  | 0 => (B, fun _ => false, fun _ => 0)
  | k + 1 =>
    let s := run3 p B k
    let a := (pick p s.1 s.2.1 p).1
    (tk s.1 a, goneU s.2.1 a, fun j => if j = k then (a : Int) else s.2.2 j)
theorem run3_fair {p : Nat} {B : Nat → Nat → Bool} (h : Fair B) : ∀ k, Fair (run3 p B k).1
  | 0 => h
  | k + 1 => fair_tk (run3_fair h k) _
theorem run3_gone {p : Nat} {B : Nat → Nat → Bool} (h : Fair B) : ∀ k, k ≤ p → cntB (run3 p B k).2.1 p = k ∧ (k < p → noneB (run3 p B k).2.1 p = false)
  | 0, hk => by
    have h0 : ∀ m, cntB (fun _ => false) m = 0 := fun m => by
      induction m with
      | zero => rfl
      | succ m ih => unfold cntB; rw [ih]; rfl
    refine ⟨h0 p, fun hp => ?_⟩
    cases hn : noneB (run3 p B 0).2.1 p
    · rfl
    · have := noneB_all p hn
      have := h0 p
      simp only [run3] at *
      omega
  | k + 1, hk => by
    obtain ⟨h1, h2⟩ := run3_gone (p := p) h k (Nat.le_of_succ_le hk)
    have h3 := pick_some (p := p) (run3_fair (p := p) h k) p (Nat.le_refl _) (h2 (by omega))
    have e : cntB (run3 p B (k + 1)).2.1 p = k + 1 := by
      have := cntB_set (f := (run3 p B k).2.1) (g := (run3 p B (k + 1)).2.1) p h3.1 h3.2.1 (fun q hq => by
        show goneU _ _ q = _
        unfold goneU
        by_cases e : q = (pick p (run3 p B k).1 (run3 p B k).2.1 p).1
        · rw [if_pos e]; simp [e]
        · rw [if_neg e]; simp [e])
      omega
    refine ⟨e, fun hp => ?_⟩
    cases hn : noneB (run3 p B (k + 1)).2.1 p
    · rfl
    · have := noneB_all p hn
      omega
theorem run3_place {p : Nat} {B : Nat → Nat → Bool} (h : Fair B) {k : Nat} (hk : k < p) : (pick p (run3 p B k).1 (run3 p B k).2.1 p).1 < p :=
  (pick_some (run3_fair h k) p (Nat.le_refl _) ((run3_gone h k (by omega)).2 hk)).1

end Go.Proofs.Ytaddhiojahmbpab
