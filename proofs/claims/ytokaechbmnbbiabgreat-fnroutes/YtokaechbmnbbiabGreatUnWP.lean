/-
  Plain: in the metric that Customize makes each weight below far is the arc's own or a sum over a lower rank; so a way that is unpacked is one of the map, as long as its weight, over lower ranks alone.
-/
import Derived.Test.YtokaechbmnbbiabGreatPack11
import Derived.Test.YtokaechbmnbbiabGreatUnMP
set_option linter.unusedVariables false
set_option linter.unusedSimpArgs false
namespace Go.Proofs.YtokaechbmnbbiabGreat

section
variable {k m : Nat} {L H : Nat → Int}
theorem runT_tight {s : (Nat → Int) × (Nat → Int)} (hE : ∀ i, i < m → 0 ≤ L i ∧ L i < H i ∧ H i < (k : Int)) : ∀ l : List Tr, (∀ t ∈ l, TOk m L H t) → Sorted L l → ∀ j,
    ((runT s l).1 j = s.1 j ∨ ∃ t ∈ l, t.2.2 = j ∧ (runT s l).1 j = upT (runT s l).1 (runT s l).2 t) ∧ ((runT s l).2 j = s.2 j ∨ ∃ t ∈ l, t.2.2 = j ∧ (runT s l).2 j = dnT (runT s l).1 (runT s l).2 t) := by
  intro l
  induction l generalizing s with
  | nil => intro _ _ j; exact ⟨Or.inl rfl, Or.inl rfl⟩
  | cons x l ih =>
    intro h1 h2 j
    have e : runT s (x :: l) = runT (stT s x) l := rfl
    rw [e]
    have IH := ih (s := stT s x) (fun y hy => h1 y (by simp [hy])) h2.2 j
    by_cases hj : j = x.2.2
    · obtain ⟨a1, a2, a3, a4, a5, a6, a7⟩ := h1 x (by simp)
      have fix : ∀ j, j < m → L j = L x.1 → (runT (stT s x) l).1 j = (stT s x).1 j ∧ (runT (stT s x) l).2 j = (stT s x).2 j := fun j hj hL => runT_same l (fun y hy e => by
        obtain ⟨b1, b2, b3, b4, b5, b6, b7⟩ := h1 y (by simp [hy])
        have c1 := h2.1 y hy
        have c2 := hE y.1 b1
        rw [← e] at hL
        omega)
      have g1 := fix x.1 a1 rfl
      have g2 := fix x.2.1 a2 a5
      have n1 : x.1 ≠ x.2.2 := fun e => by have := hE x.1 a1; rw [← e] at a6; omega
      have n2 : x.2.1 ≠ x.2.2 := fun e => by have := hE x.1 a1; rw [← e] at a6; omega
      have u1 : (stT s x).1 x.2.1 = s.1 x.2.1 := by show stU s x x.2.1 = _; unfold stU; rw [if_neg n2]
      have u2 : (stT s x).1 x.1 = s.1 x.1 := by show stU s x x.1 = _; unfold stU; rw [if_neg n1]
      have v1 : (stT s x).2 x.1 = s.2 x.1 := by show (if x.1 = x.2.2 then min (s.2 x.2.2) (dnT (stU s x) s.2 x) else s.2 x.1) = _; rw [if_neg n1]
      have v2 : (stT s x).2 x.2.1 = s.2 x.2.1 := by show (if x.2.1 = x.2.2 then min (s.2 x.2.2) (dnT (stU s x) s.2 x) else s.2 x.2.1) = _; rw [if_neg n2]
      have u3 : (stT s x).1 x.2.2 = min (s.1 x.2.2) (upT s.1 s.2 x) := by show stU s x x.2.2 = _; unfold stU; rw [if_pos rfl]
      have v3 : (stT s x).2 x.2.2 = min (s.2 x.2.2) (dnT (stU s x) s.2 x) := by show (if x.2.2 = x.2.2 then min (s.2 x.2.2) (dnT (stU s x) s.2 x) else s.2 x.2.2) = _; rw [if_pos rfl]
      have w2 : stU s x x.1 = s.1 x.1 := u2
      have up' : upT (runT (stT s x) l).1 (runT (stT s x) l).2 x = upT s.1 s.2 x := by
        unfold upT
        rw [g1.2, g2.1, u1, v1]
      have dn' : dnT (runT (stT s x) l).1 (runT (stT s x) l).2 x = dnT (stU s x) s.2 x := by
        unfold dnT
        rw [g1.1, g2.2, u2, v2, w2]
      subst hj
      refine ⟨?_, ?_⟩
      · rcases IH.1 with h | ⟨t, ht, h3, h4⟩
        · rw [u3] at h
          by_cases hc : s.1 x.2.2 ≤ upT s.1 s.2 x
          · left; rw [h, Int.min_eq_left hc]
          · right; exact ⟨x, by simp, rfl, by rw [h, up', Int.min_eq_right (Int.le_of_lt (Int.not_le.1 hc))]⟩
        · right; exact ⟨t, by simp [ht], h3, h4⟩
      · rcases IH.2 with h | ⟨t, ht, h3, h4⟩
        · rw [v3] at h
          by_cases hc : s.2 x.2.2 ≤ dnT (stU s x) s.2 x
          · left; rw [h, Int.min_eq_left hc]
          · right; exact ⟨x, by simp, rfl, by rw [h, dn', Int.min_eq_right (Int.le_of_lt (Int.not_le.1 hc))]⟩
        · right; exact ⟨t, by simp [ht], h3, h4⟩
    · have e1 : (stT s x).1 j = s.1 j := by show stU s x j = _; unfold stU; rw [if_neg hj]
      have e2 : (stT s x).2 j = s.2 j := by show (if j = x.2.2 then min (s.2 x.2.2) (dnT (stU s x) s.2 x) else s.2 j) = _; rw [if_neg hj]
      refine ⟨?_, ?_⟩
      · rcases IH.1 with h | ⟨t, ht, h3, h4⟩
        · left; rw [h, e1]
        · right; exact ⟨t, by simp [ht], h3, h4⟩
      · rcases IH.2 with h | ⟨t, ht, h3, h4⟩
        · left; rw [h, e2]
        · right; exact ⟨t, by simp [ht], h3, h4⟩
end

def Net.Tight (x : Net) : Prop := ∀ lo hi up, lo < hi → x.hs lo hi = true → x.half lo hi up = none → x.isA lo hi up = true
def Net.sum (x : Net) : Int → List Int → Int
  | _, [] => 0
  | a, b :: l => x.lw a b + x.sum b l
theorem Net.sum_app (x : Net) : ∀ (l l' : List Int) (a : Int), x.sum a (l ++ l') = x.sum a l + x.sum (l.getLastD a) l'
  | [], l', a => by simp [Net.sum]
  | b :: l, l', a => by
    simp only [List.cons_append, Net.sum, Net.sum_app x l l' b]
    have : (b :: l).getLastD a = l.getLastD b := by cases l <;> rfl
    rw [this]
    omega
theorem Net.wy_ne (x : Net) (lo hi : Nat) (up : Bool) : x.wy lo hi up ≠ [] := fun h => by
  have := (x.wy_len lo hi up).1
  rw [h] at this
  simp at this
theorem getLastD_app {l l' : List Int} {a : Int} (h : l' ≠ []) : (l ++ l').getLastD a = l'.getLastD a := by
  cases l' with
  | nil => exact absurd rfl h
  | cons b t => simp [List.getLastD_eq_getLast?, List.getLast?_append, List.getLast?_cons]
theorem Net.wy_last (x : Net) : ∀ (lo hi : Nat) (up : Bool) (a : Int), (x.wy lo hi up).getLastD a = x.O (toR lo hi up) := by
  intro lo
  induction lo using Nat.strongRecOn with
  | ind lo ih =>
    intro hi up a
    cases h : x.half lo hi up with
    | none => rw [Net.wy_none h]; rfl
    | some w =>
      rw [Net.wy_some h, getLastD_app (x.wy_ne _ _ _), ih w (x.half_lt h)]
      rfl
theorem Net.wy_sum {x : Net} (hT : x.Tight) (hD : ∀ a b, x.hs a b = true → 0 ≤ x.D a b) (hU : ∀ a b, x.hs a b = true → 0 ≤ x.U a b) : ∀ (lo hi : Nat) (up : Bool), lo < hi → x.hs lo hi = true → x.wt lo hi up < 1000000000000 → x.sum (x.O (frR lo hi up)) (x.wy lo hi up) = x.wt lo hi up := by
  intro lo
  induction lo using Nat.strongRecOn with
  | ind lo ih =>
    intro hi up hlt hs hf
    cases h : x.half lo hi up with
    | none =>
      have hA := hT lo hi up hlt hs h
      unfold Net.isA at hA
      rw [Net.wy_none h]
      simp only [Net.sum, Int.add_zero]
      exact of_decide_eq_true hA
    | some w =>
      have hw := x.half_lt h
      have hfit := x.half_fit h
      simp only [Net.fit, Bool.and_eq_true, decide_eq_true_eq] at hfit
      obtain ⟨⟨h1, h2⟩, h3⟩ := hfit
      have hlt2 := addF_lt h3 hf (hD _ _ h1) (hU _ _ h2)
      have hfr : w < frR lo hi up := by unfold frR; split <;> omega
      have htr : w < toR lo hi up := by unfold toR; split <;> omega
      have i1 := ih w hw (frR lo hi up) false hfr h1 (by simp only [Net.wt, Bool.false_eq_true, if_false]; exact hlt2.1)
      have i2 := ih w hw (toR lo hi up) true htr h2 (by simp only [Net.wt, if_true]; exact hlt2.2)
      rw [Net.wy_some h, Net.sum_app, Net.wy_last]
      have e1 : frR w (frR lo hi up) false = frR lo hi up := rfl
      have e2 : toR w (frR lo hi up) false = w := rfl
      have e3 : frR w (toR lo hi up) true = w := rfl
      rw [e1] at i1
      rw [e3] at i2
      rw [e2, i1, i2]
      simp only [Net.wt, Bool.false_eq_true, if_false, if_true] at h3 hf ⊢
      unfold addF at h3
      omega
end Go.Proofs.YtokaechbmnbbiabGreat
