/-
  The shortest way, plainly: climbs over the edges of a right metric.
-/
import Derived.Test.YtoklneimebhjdabPack9
set_option linter.unusedVariables false
set_option linter.unusedSimpArgs false
namespace Go.Proofs.Ytoklneimebhjdab

section
variable {k m : Nat} {L H W : Nat → Int}
theorem ed_le {p : Int} (he : edB p L H m = true) {i j : Nat} (hij : i ≤ j) (hj : j < m) : L i ≤ L j := by
  by_cases e : i = j
  · subst e; exact Int.le_refl _
  · have := ed_rise m he j hj i (by omega)
    omega
theorem cl_down {s : Nat} (i : Nat) (r : Nat) : cl L H W s (i + 1) r ≤ cl L H W s i r := by
  rw [cl.eq_2]
  simp only
  split
  · rename_i e
    rw [← e]
    omega
  · exact Int.le_refl _
theorem cl_mono {s i r : Nat} : ∀ d, cl L H W s (i + d) r ≤ cl L H W s i r
  | 0 => Int.le_refl _
  | d + 1 => Int.le_trans (cl_down (i + d) r) (cl_mono d)
theorem cl_stay {s i r : Nat} (he : edB (k : Int) L H m = true) (hE : ∀ i, i < m → 0 ≤ L i ∧ L i < H i ∧ H i < (k : Int)) (hr : (r : Int) ≤ L i) : ∀ d, i + d ≤ m → cl L H W s (i + d) r = cl L H W s i r
  | 0, _ => rfl
  | d + 1, hd => by
    have h1 := cl_stay (s := s) he hE hr d (by omega)
    have h2 := ed_le he (show i ≤ i + d by omega) (by omega)
    have h3 := hE (i + d) (by omega)
    show cl L H W s ((i + d) + 1) r = _
    rw [cl.eq_2]
    simp only
    rw [if_neg (by omega), h1]
/-- No edge makes a climb shorter. -/
theorem cl_fix {s : Nat} (he : edB (k : Int) L H m = true) (hE : ∀ i, i < m → 0 ≤ L i ∧ L i < H i ∧ H i < (k : Int)) {i : Nat} (hi : i < m) : cl L H W s m (H i).toNat ≤ cl L H W s m (L i).toNat + W i := by
  have h1 : cl L H W s m (L i).toNat = cl L H W s i (L i).toNat := by
    have := cl_stay (s := s) (W := W) he hE (i := i) (r := (L i).toNat) (by have := hE i hi; omega) (m - i) (by omega)
    rwa [show i + (m - i) = m by omega] at this
  have h2 : cl L H W s m (H i).toNat ≤ cl L H W s (i + 1) (H i).toNat := by
    have := cl_mono (L := L) (H := H) (W := W) (s := s) (i := i + 1) (r := (H i).toNat) (m - (i + 1))
    rwa [show i + 1 + (m - (i + 1)) = m by omega] at this
  have h3 : cl L H W s (i + 1) (H i).toNat ≤ cl L H W s i (L i).toNat + W i := by
    rw [cl.eq_2]
    simp only
    rw [if_pos trivial]
    omega
  omega
/-- A climb to a rank and on from there is none shorter than the climb. -/
theorem cl_then {s t : Nat} (he : edB (k : Int) L H m = true) (hE : ∀ i, i < m → 0 ≤ L i ∧ L i < H i ∧ H i < (k : Int)) (hW : InF m W) : ∀ i, i ≤ m → ∀ r, cl L H W s m r ≤ cl L H W s m t + cl L H W t i r
  | 0, _, r => by
    have h1 := cl_in (L := L) (H := H) s hW m (Nat.le_refl _) r
    have h2 := cl_in (L := L) (H := H) s hW m (Nat.le_refl _) t
    rw [cl.eq_1 L H W t]
    simp only
    split
    · rename_i e; subst e; omega
    · omega
  | i + 1, hi, r => by
    have ih := cl_then he hE hW (s := s) (t := t) i (by omega)
    have h1 := cl_in (L := L) (H := H) s hW m (Nat.le_refl _) r
    have h2 := cl_in (L := L) (H := H) s hW m (Nat.le_refl _) t
    rw [cl.eq_2 L H W t]
    simp only
    split
    · rename_i e
      have a := ih (H i).toNat
      have b := ih (L i).toNat
      have c := cl_fix (s := s) (W := W) he hE (i := i) (by omega)
      subst e
      omega
    · exact ih r
/-- The first edge of a climb. -/
theorem cl_first {x : Nat} (he : edB (k : Int) L H m = true) (hE : ∀ i, i < m → 0 ≤ L i ∧ L i < H i ∧ H i < (k : Int)) (hW : InF m W) : ∀ i, i ≤ m → ∀ r, r ≠ x → cl L H W x i r < 1000000000000 → ∃ j, j < m ∧ (L j).toNat = x ∧ W j + cl L H W (H j).toNat m r ≤ cl L H W x i r
  | 0, _, r, hr, h => by
    rw [cl.eq_1 L H W x] at h
    simp only at h
    rw [if_neg hr] at h
    omega
  | i + 1, hi, r, hr, h => by
    have ih := cl_first he hE hW (x := x) i (by omega)
    rw [cl.eq_2 L H W x] at h ⊢
    simp only at h ⊢
    split
    · rename_i e
      rw [if_pos e] at h
      subst e
      by_cases hc : cl L H W x i (H i).toNat ≤ min 1000000000000 (cl L H W x i (L i).toNat + W i)
      · obtain ⟨j, hj, e1, e2⟩ := ih (H i).toNat hr (by omega)
        exact ⟨j, hj, e1, by omega⟩
      · by_cases hx : (L i).toNat = x
        · have z := cl_zero (s := (H i).toNat) hE hW m (Nat.le_refl _)
          have y := cl_in (L := L) (H := H) x hW i (by omega) (L i).toNat
          exact ⟨i, by omega, hx, by omega⟩
        · have hw := hW i (by omega)
          obtain ⟨j, hj, e1, e2⟩ := ih (L i).toNat hx (by omega)
          have c := cl_fix (s := (H j).toNat) (W := W) he hE (i := i) (by omega)
          exact ⟨j, hj, e1, by omega⟩
    · rename_i e
      rw [if_neg e] at h
      exact ih r hr h
end

/-- The least sum of two climbs. -/
theorem mt_leS {A B : Nat → Int} : ∀ k, (mt A B k).2 ≤ 1000000000000 ∧ ∀ r, r < k → (mt A B k).2 ≤ A r + B r
  | 0 => ⟨by simp [mt], fun r hr => by omega⟩
  | k + 1 => by
    obtain ⟨h1, h2⟩ := mt_leS (A := A) (B := B) k
    unfold mt
    split
    · rename_i h
      refine ⟨by simp only; omega, fun r hr => ?_⟩
      by_cases e : r = k
      · subst e; simp only; omega
      · have := h2 r (by omega); simp only; omega
    · rename_i h
      refine ⟨h1, fun r hr => ?_⟩
      by_cases e : r = k
      · subst e; omega
      · exact h2 r (by omega)
theorem mt_atS {A B : Nat → Int} : ∀ k, (mt A B k).2 < 1000000000000 → ∃ r, r < k ∧ (mt A B k).2 = A r + B r
  | 0, h => by simp [mt] at h
  | k + 1, h => by
    unfold mt at h ⊢
    split
    · rename_i hl
      rw [if_pos hl] at h
      simp only at h ⊢
      exact ⟨k, by omega, by omega⟩
    · rename_i hl
      rw [if_neg hl] at h
      obtain ⟨r, hr, e⟩ := mt_atS k h
      exact ⟨r, by omega, e⟩

section
variable {k m : Nat} {L H U V : Nat → Int}
/-- Down along an edge. -/
theorem way_down {a e r : Nat} (he : edB (k : Int) L H m = true) (hE : ∀ i, i < m → 0 ≤ L i ∧ L i < H i ∧ H i < (k : Int)) (hV : InF m V) (h : e < m) : cl L H V (L e).toNat m r ≤ V e + cl L H V (H e).toNat m r := by
  have h1 := cl_then (s := (L e).toNat) (t := (H e).toNat) he hE hV m (Nat.le_refl _) r
  have h2 := cl_fix (s := (L e).toNat) (W := V) he hE h
  have h3 := cl_zero (s := (L e).toNat) hE hV m (Nat.le_refl _)
  omega
/-- Up along an edge: by induction from the top down. -/
theorem way_up {a : Nat} (hC : Chd (k : Int) m L H) (he : edB (k : Int) L H m = true) (hE : ∀ i, i < m → 0 ≤ L i ∧ L i < H i ∧ H i < (k : Int)) (hU : InF m U) (hV : InF m V) (hT : ∀ t, TOk m L H t → okT U V t) :
    ∀ d e r, e < m → r < k → k - (L e).toNat ≤ d → (mt (cl L H U a m) (cl L H V (H e).toNat m) k).2 ≤ cl L H U a m r + cl L H V (L e).toNat m r + U e
  | 0, e, r, h, hr, hd => by have := hE e h; omega
  | d + 1, e, r, h, hr, hd => by
    have he1 := hE e h
    obtain ⟨f1, f2⟩ := mt_leS (A := cl L H U a m) (B := cl L H V (H e).toNat m) k
    have u1 := hU e h
    have u2 := cl_in (L := L) (H := H) a hU m (Nat.le_refl _) r
    have v2 := cl_in (L := L) (H := H) (L e).toNat hV m (Nat.le_refl _) r
    by_cases hrx : r = (L e).toNat
    · have a1 := cl_fix (s := a) (W := U) he hE h
      have a2 := f2 (H e).toNat (by omega)
      have a3 := cl_zero (s := (H e).toNat) hE hV m (Nat.le_refl _)
      rw [hrx]
      rw [hrx] at v2
      omega
    by_cases hf : cl L H V (L e).toNat m r < 1000000000000
    rotate_left
    · omega
    obtain ⟨j, hj, e1, e2⟩ := cl_first he hE hV m (Nat.le_refl _) r hrx hf
    have hj1 := hE j hj
    have hje : L j = L e := by omega
    have w1 := hV j hj
    by_cases hxy : H j = H e
    · have a1 := f2 r hr
      rw [hxy] at e2
      omega
    by_cases hlt : H j < H e
    · have hje2 : j < e := by
        rcases Nat.lt_trichotomy j e with q | q | q
        · exact q
        · subst q; omega
        · have := ed_rise m he j hj e q; omega
      have hk := tok_of he hC.2 hje2 h hje.symm
      have ht := (hT _ hk).1
      obtain ⟨_, _, q3, _, q5, q6, q7⟩ := hk
      simp only at q3 q6 q7
      unfold upT at ht
      simp only at ht
      have ih := way_up (a := a) hC he hE hU hV hT d _ r q3 hr (by rw [q6]; omega)
      rw [q6, q7] at ih
      omega
    · have hje2 : e < j := by
        rcases Nat.lt_trichotomy j e with q | q | q
        · have := ed_rise m he e h j q; omega
        · subst q; omega
        · exact q
      have hk := tok_of he hC.2 hje2 hj hje
      have ht := (hT _ hk).2
      obtain ⟨_, _, q3, _, q5, q6, q7⟩ := hk
      simp only at q3 q6 q7
      unfold dnT at ht
      simp only at ht
      have a1 := way_down (a := a) (r := r) he hE hV q3
      rw [q6, q7] at a1
      have a2 := f2 r hr
      omega
end

end Go.Proofs.Ytoklneimebhjdab
