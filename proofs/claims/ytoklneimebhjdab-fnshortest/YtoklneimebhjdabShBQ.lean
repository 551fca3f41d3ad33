/-
  A customized metric is right, plainly: no triangle makes an edge shorter.
-/
import Derived.Test.YtoklneimebhjdabPack6
set_option linter.unusedVariables false
set_option linter.unusedSimpArgs false
namespace Go.Proofs.Ytoklneimebhjdab

section
variable {k m : Nat} {L H : Nat → Int}
/-- What a triangle writes lies above its own lower edges. -/
theorem runT_same {s : (Nat → Int) × (Nat → Int)} {j : Nat} : ∀ l : List Tr, (∀ t ∈ l, t.2.2 ≠ j) → (runT s l).1 j = s.1 j ∧ (runT s l).2 j = s.2 j := by
  intro l
  induction l generalizing s with
  | nil => intro _; exact ⟨rfl, rfl⟩
  | cons t l ih =>
    intro h
    have h0 := h t (by simp)
    have h1 := ih (s := stT s t) (fun x hx => h x (by simp [hx]))
    have e : runT s (t :: l) = runT (stT s t) l := rfl
    rw [e, h1.1, h1.2]
    refine ⟨?_, ?_⟩
    · show stU s t j = s.1 j
      unfold stU
      rw [if_neg (fun q => h0 q.symm)]
    · show (if j = t.2.2 then min (s.2 t.2.2) (dnT (stU s t) s.2 t) else s.2 j) = s.2 j
      rw [if_neg (fun q => h0 q.symm)]
theorem stT_le (s : (Nat → Int) × (Nat → Int)) (t : Tr) (j : Nat) : (stT s t).1 j ≤ s.1 j ∧ (stT s t).2 j ≤ s.2 j := by
  refine ⟨?_, ?_⟩
  · show stU s t j ≤ s.1 j
    unfold stU
    split
    · rename_i e; rw [e]; omega
    · exact Int.le_refl _
  · show (if j = t.2.2 then min (s.2 t.2.2) (dnT (stU s t) s.2 t) else s.2 j) ≤ s.2 j
    split
    · rename_i e; rw [e]; omega
    · exact Int.le_refl _
theorem runT_le {s : (Nat → Int) × (Nat → Int)} {j : Nat} : ∀ l : List Tr, (runT s l).1 j ≤ s.1 j ∧ (runT s l).2 j ≤ s.2 j := by
  intro l
  induction l generalizing s with
  | nil => exact ⟨Int.le_refl _, Int.le_refl _⟩
  | cons t l ih =>
    have h1 := ih (s := stT s t)
    have h2 := stT_le s t j
    have e : runT s (t :: l) = runT (stT s t) l := rfl
    rw [e]
    omega
/-- The triangles come by their least place. -/
def Sorted (L : Nat → Int) : List Tr → Prop
  | [] => True
  | t :: l => (∀ x ∈ l, L t.1 ≤ L x.1) ∧ Sorted L l
theorem sorted_append {L : Nat → Int} : ∀ l l' : List Tr, Sorted L l → Sorted L l' → (∀ x ∈ l, ∀ y ∈ l', L x.1 ≤ L y.1) → Sorted L (l ++ l')
  | [], l', _, h2, _ => h2
  | t :: l, l', h1, h2, h3 => ⟨fun x hx => by
      rcases List.mem_append.1 hx with q | q
      · exact h1.1 x q
      · exact h3 t (by simp) x q, sorted_append l l' h1.2 h2 (fun x hx y hy => h3 x (by simp [hx]) y hy)⟩
theorem rowT_fst {n i : Nat} : ∀ f q, ∀ t ∈ rowT n L H i f q, t.1 = i
  | 0, q, t, ht => by simp [rowT] at ht
  | f + 1, q, t, ht => by
    unfold rowT at ht
    split at ht
    · rcases List.mem_cons.1 ht with e | e
      · rw [e]
      · exact rowT_fst f (q + 1) t e
    · simp at ht
theorem rowT_sorted {n i : Nat} : ∀ f q, Sorted L (rowT n L H i f q)
  | 0, q => by simp [rowT, Sorted]
  | f + 1, q => by
    unfold rowT
    split
    · exact ⟨fun x hx => by rw [rowT_fst f (q + 1) x hx]; exact Int.le_refl _, rowT_sorted f (q + 1)⟩
    · trivial
theorem allT_fst {n : Nat} : ∀ i, ∀ t ∈ allT n L H i, t.1 < i
  | 0, t, ht => by simp [allT] at ht
  | i + 1, t, ht => by
    unfold allT at ht
    rcases List.mem_append.1 ht with e | e
    · have := allT_fst i t e; omega
    · rw [rowT_fst _ _ t e]; omega
theorem allT_sorted {p : Int} (he : edB p L H m = true) : ∀ i, i ≤ m → Sorted L (allT m L H i)
  | 0, _ => by simp [allT, Sorted]
  | i + 1, hi => by
    unfold allT
    refine sorted_append _ _ (allT_sorted he i (by omega)) (rowT_sorted _ _) (fun x hx y hy => ?_)
    have h1 := allT_fst i x hx
    rw [rowT_fst _ _ y hy]
    have := ed_rise m he i (by omega) x.1 h1
    omega
/-- Behind all triangles each of them is right. -/
theorem runT_ok {s : (Nat → Int) × (Nat → Int)} (hE : ∀ i, i < m → 0 ≤ L i ∧ L i < H i ∧ H i < (k : Int)) : ∀ l : List Tr, (∀ t ∈ l, TOk m L H t) → Sorted L l → ∀ t ∈ l, okT (runT s l).1 (runT s l).2 t := by
  intro l
  induction l generalizing s with
  | nil => intro _ _ t ht; simp at ht
  | cons x l ih =>
    intro h1 h2 t ht
    have e : runT s (x :: l) = runT (stT s x) l := rfl
    rw [e]
    rcases List.mem_cons.1 ht with q | q
    · subst q
      obtain ⟨a1, a2, a3, a4, a5, a6, a7⟩ := h1 t (by simp)
      have fix : ∀ j, j < m → L j = L t.1 → (runT (stT s t) l).1 j = (stT s t).1 j ∧ (runT (stT s t) l).2 j = (stT s t).2 j := fun j hj hL => runT_same l (fun y hy e => by
        obtain ⟨b1, b2, b3, b4, b5, b6, b7⟩ := h1 y (by simp [hy])
        have c1 := h2.1 y hy
        have c2 := hE y.1 b1
        rw [← e] at hL
        omega)
      have g1 := fix t.1 a1 rfl
      have g2 := fix t.2.1 a2 a5
      have g3 := runT_le (s := stT s t) (j := t.2.2) l
      have n1 : t.1 ≠ t.2.2 := fun e => by have := hE t.1 a1; rw [← e] at a6; omega
      have n2 : t.2.1 ≠ t.2.2 := fun e => by have := hE t.1 a1; rw [← e] at a6; omega
      have u1 : (stT s t).1 t.2.1 = s.1 t.2.1 := by show stU s t t.2.1 = _; unfold stU; rw [if_neg n2]
      have u2 : (stT s t).1 t.1 = s.1 t.1 := by show stU s t t.1 = _; unfold stU; rw [if_neg n1]
      have v1 : (stT s t).2 t.1 = s.2 t.1 := by show (if t.1 = t.2.2 then min (s.2 t.2.2) (dnT (stU s t) s.2 t) else s.2 t.1) = _; rw [if_neg n1]
      have v2 : (stT s t).2 t.2.1 = s.2 t.2.1 := by show (if t.2.1 = t.2.2 then min (s.2 t.2.2) (dnT (stU s t) s.2 t) else s.2 t.2.1) = _; rw [if_neg n2]
      have u3 : (stT s t).1 t.2.2 ≤ upT s.1 s.2 t := by show stU s t t.2.2 ≤ _; unfold stU; rw [if_pos rfl]; omega
      have v3 : (stT s t).2 t.2.2 ≤ dnT (stU s t) s.2 t := by show (if t.2.2 = t.2.2 then min (s.2 t.2.2) (dnT (stU s t) s.2 t) else s.2 t.2.2) ≤ _; rw [if_pos rfl]; omega
      have w2 : stU s t t.1 = s.1 t.1 := u2
      unfold okT upT dnT
      unfold upT at u3
      unfold dnT at v3
      rw [w2] at v3
      rw [g1.1, g1.2, g2.1, g2.2, u1, u2, v1, v2]
      omega
    · exact ih (s := stT s x) (fun y hy => h1 y (by simp [hy])) h2.2 t q
end

end Go.Proofs.Ytoklneimebhjdab
