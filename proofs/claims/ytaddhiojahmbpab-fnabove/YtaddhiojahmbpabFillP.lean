/-
  The fill, the plain part: the squares while places are taken away in an order, the edges in their order, the edges as they come, and that a sorted list of the ones is the other.
-/
import Derived.Test.YtaddhiojahmbpabTakeP
import Derived.Test.YtaddhiojahmbpabRank
set_option linter.unusedVariables false
set_option linter.unusedSimpArgs false
namespace Go.Proofs.Ytaddhiojahmbpab

theorem sn_mem {P : Nat → Int} : ∀ k q, sn P k q = true ↔ ∃ j, j < k ∧ P j = (q : Int)
  | 0, q => by simp [sn]
  | k + 1, q => by
    rw [sn_succ, Bool.or_eq_true, sn_mem k q, beq_iff_eq]
    constructor
    · rintro (h | ⟨j, h1, h2⟩)
      · exact ⟨k, by omega, h⟩
      · exact ⟨j, by omega, h2⟩
    · rintro ⟨j, h1, h2⟩
      by_cases e : j = k
      · subst e; exact Or.inl h2
      · exact Or.inr ⟨j, by omega, h2⟩
theorem each_in {m : Nat} {P : Nat → Int} : ∀ n, eachB m P n = true → ∀ k, k < n → (0 ≤ P k ∧ P k < (m : Int)) ∧ sn P k (P k).toNat = false
  | 0, _, k, hk => by omega
  | n + 1, h, k, hk => by
    simp only [eachB, Bool.and_eq_true] at h
    by_cases e : k = n
    · subst e
      have h1 : 0 ≤ P k ∧ P k ≤ (m : Int) - 1 := by simpa [inB] using h.2.1
      exact ⟨by omega, by simpa using h.2.2⟩
    · exact each_in n h.1 k (by omega)
theorem each_inj {m n : Nat} {P : Nat → Int} (h : eachB m P n = true) {i j : Nat} (hi : i < n) (hj : j < n) (e : P i = P j) : i = j := by
  have key : ∀ a b, a < b → b < n → P a ≠ P b := fun a b hab hb e => by
    have h1 := each_in n h b hb
    have : sn P b (P b).toNat = true := (sn_mem b _).2 ⟨a, hab, by omega⟩
    rw [h1.2] at this; cases this
  rcases Nat.lt_trichotomy i j with hl | hl | hl
  · exact absurd e (key i j hl hj)
  · exact hl
  · exact absurd e.symm (key j i hl hi)
theorem rk_is {m : Nat} {P : Nat → Int} (z : Int) : ∀ n, eachB m P n = true → ∀ h, h < n → rk P z n (P h).toNat = (h : Int)
  | 0, _, h, hh => by omega
  | n + 1, he, h, hh => by
    have h0 := each_in (n + 1) he h hh
    show (if P n = (((P h).toNat : Nat) : Int) then (n : Int) else rk P z n (P h).toNat) = (h : Int)
    by_cases e : h = n
    · subst e; rw [if_pos (by omega)]
    · rw [if_neg (fun x => e (each_inj he hh (Nat.lt_succ_self n) (by omega)))]
      simp only [eachB, Bool.and_eq_true] at he
      exact rk_is z n he.1 h (by omega)
/-- Each place has its rank. -/
theorem rk_of {n : Nat} {P : Nat → Int} (h : eachB n P n = true) (z : Int) {q : Nat} (hq : q < n) : ∃ k, k < n ∧ P k = (q : Int) ∧ rk P z n q = (k : Int) := by
  obtain ⟨k, hk, e⟩ := (sn_mem n q).1 (each_all h q hq)
  refine ⟨k, hk, e, ?_⟩
  have := rk_is z n h k hk
  rw [e] at this
  simpa using this

/-- The square when k places have been taken away. -/
def sqO (B : Nat → Nat → Bool) (P : Nat → Int) : Nat → Nat → Nat → Bool
  | 0 => B
  | k + 1 => tk (sqO B P k) (P k).toNat
theorem sqO_fair {B : Nat → Nat → Bool} (h : Fair B) (P : Nat → Int) : ∀ k, Fair (sqO B P k)
  | 0 => h
  | k + 1 => fair_tk (sqO_fair h P k) _
theorem sqO_within {p : Nat} {B : Nat → Nat → Bool} (h : Within p B) (P : Nat → Int) : ∀ k, Within p (sqO B P k)
  | 0 => h
  | k + 1 => within_tk (sqO_within h P k) _
theorem sqO_gone {B : Nat → Nat → Bool} (hB : Fair B) (P : Nat → Int) : ∀ k j, j < k → ∀ y, sqO B P k (P j).toNat y = false
  | 0, j, hj, y => by omega
  | k + 1, j, hj, y => by
    show tk (sqO B P k) (P k).toNat (P j).toNat y = false
    unfold tk
    by_cases e : j = k
    · subst e; rw [if_pos (Or.inl rfl)]
    · have h1 := sqO_gone hB P k j (by omega)
      split
      · rfl
      · rw [h1 y, (sqO_fair hB P k).1, h1]; rfl

abbrev Pr : Type := Int × Int
def lt2 (a b : Pr) : Prop := upB a.1 a.2 b.1 b.2 = true
theorem lt2_iff (a b : Pr) : lt2 a b ↔ a.1 < b.1 ∨ (a.1 = b.1 ∧ a.2 < b.2) := by
  unfold lt2 upB; simp
theorem lt2_irr (a : Pr) : ¬ lt2 a a := by rw [lt2_iff]; omega
theorem lt2_trans {a b c : Pr} (h1 : lt2 a b) (h2 : lt2 b c) : lt2 a c := by rw [lt2_iff] at *; omega
theorem lt2_tot {a b : Pr} (h1 : ¬ lt2 a b) (h2 : ¬ lt2 b a) : a = b := by
  rw [lt2_iff] at *
  have h3 : a.1 = b.1 := by omega
  have h4 : a.2 = b.2 := by omega
  exact Prod.ext h3 h4
theorem le2_trans {a b c : Pr} (h1 : ¬ lt2 b a) (h2 : ¬ lt2 c b) : ¬ lt2 c a := by rw [lt2_iff] at *; omega
/-- In their order. -/
def Srt (l : List Pr) : Prop := l.Pairwise (fun a b => ¬ lt2 b a)
theorem srt_unique : ∀ (l1 l2 : List Pr), l1.Pairwise lt2 → Srt l2 → l2.Nodup → (∀ x, x ∈ l1 ↔ x ∈ l2) → l1 = l2
  | [], l2, _, _, _, h => by
    cases l2 with
    | nil => rfl
    | cons b bs => exact absurd ((h b).2 (by simp)) (by simp)
  | a :: xs, [], _, _, _, h => absurd ((h a).1 (by simp)) (by simp)
  | a :: xs, b :: bs, h1, h2, h3, h => by
    rw [List.pairwise_cons] at h1
    unfold Srt at h2
    rw [List.pairwise_cons] at h2
    rw [List.nodup_cons] at h3
    have hab : a = b := by
      by_cases e : a = b
      · exact e
      · have x1 : a ∈ bs := by
          have := (h a).1 (by simp)
          simp at this
          exact this.resolve_left e
        have x2 : b ∈ xs := by
          have := (h b).2 (by simp)
          simp at this
          exact this.resolve_left (fun x => e x.symm)
        exact absurd (h1.1 b x2) (h2.1 a x1)
    subst hab
    rw [srt_unique xs bs h1.2 h2.2 h3.2 (fun x => ?_)]
    constructor
    · intro hx
      have := (h x).1 (by simp [hx])
      simp at this
      rcases this with e | e
      · subst e; exact absurd (h1.1 x hx) (lt2_irr x)
      · exact e
    · intro hx
      have := (h x).2 (by simp [hx])
      simp at this
      rcases this with e | e
      · subst e; exact absurd hx h3.1
      · exact e

section
variable (B : Nat → Nat → Bool) (P : Nat → Int) (p : Nat)
/-- The edges of rank r to ranks below h, in their order. -/
def rowS (r : Nat) : Nat → List Pr
  | 0 => []
  | h + 1 => rowS r h ++ (if r < h ∧ sqO B P r (P r).toNat (P h).toNat = true then [((r : Int), (h : Int))] else [])
def allS : Nat → List Pr
  | 0 => []
  | r + 1 => allS r ++ rowS B P r p
/-- The edges of rank r as they come: by places. -/
def rowU (r k : Nat) : List Pr := (visF (sqO B P r (P r).toNat) k).map (fun q => ((r : Int), rk P (-1) p q))
def allU : Nat → List Pr
  | 0 => []
  | r + 1 => allU r ++ rowU B P p r p
end
variable {B : Nat → Nat → Bool} {P : Nat → Int} {p : Nat}
theorem mem_rowS (r : Nat) (x : Pr) : ∀ k, x ∈ rowS B P r k ↔ ∃ h, h < k ∧ r < h ∧ sqO B P r (P r).toNat (P h).toNat = true ∧ x = ((r : Int), (h : Int))
  | 0 => by simp [rowS]
  | k + 1 => by
    show x ∈ rowS B P r k ++ _ ↔ _
    rw [List.mem_append, mem_rowS r x k]
    constructor
    · rintro (⟨h, h1, h2⟩ | h)
      · exact ⟨h, by omega, h2⟩
      · split at h
        · next c =>
          simp at h
          exact ⟨k, by omega, c.1, c.2, h⟩
        · simp at h
    · rintro ⟨h, h1, h2, h3, h4⟩
      by_cases e : h = k
      · subst e
        right
        rw [if_pos ⟨h2, h3⟩, h4]; simp
      · exact Or.inl ⟨h, by omega, h2, h3, h4⟩
theorem mem_allS (x : Pr) : ∀ R, x ∈ allS B P p R ↔ ∃ r h, r < R ∧ h < p ∧ r < h ∧ sqO B P r (P r).toNat (P h).toNat = true ∧ x = ((r : Int), (h : Int))
  | 0 => by simp [allS]
  | R + 1 => by
    show x ∈ allS B P p R ++ _ ↔ _
    rw [List.mem_append, mem_allS x R, mem_rowS]
    constructor
    · rintro (⟨r, h, h1, h2⟩ | ⟨h, h1, h2⟩)
      · exact ⟨r, h, by omega, h2⟩
      · exact ⟨R, h, by omega, h1, h2⟩
    · rintro ⟨r, h, h1, h2⟩
      by_cases e : r = R
      · subst e; exact Or.inr ⟨h, h2⟩
      · exact Or.inl ⟨r, h, by omega, h2⟩
theorem mem_allU (x : Pr) : ∀ R, x ∈ allU B P p R ↔ ∃ r q, r < R ∧ q < p ∧ sqO B P r (P r).toNat q = true ∧ x = ((r : Int), rk P (-1) p q)
  | 0 => by simp [allU]
  | R + 1 => by
    show x ∈ allU B P p R ++ rowU B P p R p ↔ _
    rw [List.mem_append, mem_allU x R]
    unfold rowU
    rw [List.mem_map]
    constructor
    · rintro (⟨r, q, h1, h2⟩ | ⟨q, h1, h2⟩)
      · exact ⟨r, q, by omega, h2⟩
      · rw [visF_mem] at h1
        exact ⟨R, q, by omega, h1.1, h1.2, h2.symm⟩
    · rintro ⟨r, q, h1, h2, h3, h4⟩
      by_cases e : r = R
      · subst e; exact Or.inr ⟨q, (visF_mem _ _ _).2 ⟨h2, h3⟩, h4.symm⟩
      · exact Or.inl ⟨r, q, by omega, h2, h3, h4⟩
theorem srt_rowS (r : Nat) : ∀ k, (rowS B P r k).Pairwise lt2
  | 0 => List.Pairwise.nil
  | k + 1 => by
    show (rowS B P r k ++ _).Pairwise lt2
    rw [List.pairwise_append]
    refine ⟨srt_rowS r k, ?_, fun x hx y hy => ?_⟩
    · split <;> simp
    · obtain ⟨h, h1, h2, h3, rfl⟩ := (mem_rowS r x k).1 hx
      split at hy
      · simp at hy
        subst hy
        rw [lt2_iff]; simp; omega
      · simp at hy
theorem srt_allS : ∀ R, (allS B P p R).Pairwise lt2
  | 0 => List.Pairwise.nil
  | R + 1 => by
    show (allS B P p R ++ rowS B P R p).Pairwise lt2
    rw [List.pairwise_append]
    refine ⟨srt_allS R, srt_rowS R p, fun x hx y hy => ?_⟩
    obtain ⟨r, h, h1, _, _, _, rfl⟩ := (mem_allS x R).1 hx
    obtain ⟨h', _, _, _, rfl⟩ := (mem_rowS R y p).1 hy
    rw [lt2_iff]; simp; omega
theorem visF_nodup (f : Nat → Bool) : ∀ k, (visF f k).Nodup
  | 0 => by simp [visF, vis]
  | k + 1 => by
    show (if f k then visF f k ++ [k] else visF f k).Nodup
    split
    · rw [List.nodup_append]
      refine ⟨visF_nodup f k, by simp, fun a ha b hb => ?_⟩
      simp at hb
      have := (visF_mem f k a).1 ha
      omega
    · exact visF_nodup f k
theorem rk_inj (he : eachB p P p = true) {a b : Nat} (ha : a < p) (hb : b < p) (e : rk P (-1) p a = rk P (-1) p b) : a = b := by
  obtain ⟨k, _, h1, h2⟩ := rk_of he (-1) ha
  obtain ⟨k', _, h3, h4⟩ := rk_of he (-1) hb
  have : k = k' := by omega
  subst this
  omega
theorem nodup_allU (he : eachB p P p = true) : ∀ R, (allU B P p R).Nodup
  | 0 => by simp [allU]
  | R + 1 => by
    show (allU B P p R ++ rowU B P p R p).Nodup
    rw [List.nodup_append]
    refine ⟨nodup_allU he R, ?_, fun a ha b hb e => ?_⟩
    · unfold rowU
      rw [List.nodup_iff_pairwise_ne, List.pairwise_map]
      refine (List.nodup_iff_pairwise_ne.1 (visF_nodup (sqO B P R (P R).toNat) p)).imp_of_mem ?_
      intro a b ha hb hab e
      simp at e
      exact hab (rk_inj he ((visF_mem _ _ _).1 ha).1 ((visF_mem _ _ _).1 hb).1 e)
    · obtain ⟨r, q, h1, _, _, h2⟩ := (mem_allU a R).1 ha
      unfold rowU at hb
      rw [List.mem_map] at hb
      obtain ⟨q', _, h3⟩ := hb
      subst e
      rw [h2] at h3
      simp at h3
      omega
theorem mem_same (hB : Fair B) (he : eachB p P p = true) (x : Pr) : x ∈ allS B P p p ↔ x ∈ allU B P p p := by
  rw [mem_allS, mem_allU]
  constructor
  · rintro ⟨r, h, h1, h2, h3, h4, rfl⟩
    have := (each_in p he h h2).1
    exact ⟨r, (P h).toNat, h1, by omega, h4, by rw [rk_is (-1) p he h h2]⟩
  · rintro ⟨r, q, h1, h2, h3, rfl⟩
    obtain ⟨k, hk, e1, e2⟩ := rk_of he (-1) h2
    have hq : (P k).toNat = q := by omega
    refine ⟨r, k, h1, hk, ?_, by rw [hq]; exact h3, by rw [e2]⟩
    rcases Nat.lt_trichotomy r k with hl | hl | hl
    · exact hl
    · subst hl
      rw [hq, (sqO_fair hB P r).2] at h3; cases h3
    · rw [(sqO_fair hB P r).1, ← hq, sqO_gone hB P r k hl] at h3; cases h3
/-- A sorted list of the edges as they come is the list of the edges in their order. -/
theorem fill_same (hB : Fair B) (he : eachB p P p = true) {l : List Pr} (hp : l.Perm (allU B P p p)) (hs : Srt l) : l = allS B P p p :=
  (srt_unique _ l (srt_allS p) hs (hp.symm.nodup (nodup_allU he p)) (fun x => by rw [mem_same hB he, hp.mem_iff])).symm

end Go.Proofs.Ytaddhiojahmbpab
