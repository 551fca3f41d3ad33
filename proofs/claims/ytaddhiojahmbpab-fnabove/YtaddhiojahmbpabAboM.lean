/-
  The chain of parents rises; in a fill it meets each upper end: the plain part.
-/
import Derived.Test.YtaddhiojahmbpabFillM
import Derived.Test.YtaddhiojahmbpabAbo
set_option linter.unusedVariables false
set_option linter.unusedSimpArgs false
namespace Go.Proofs.Ytaddhiojahmbpab

theorem ch_neg {D : Nat → Int} {r : Int} {j : Nat} (h : ch D r j < 0) : ∀ d, ch D r (j + d) < 0
  | 0 => h
  | d + 1 => by
    show (if 0 ≤ ch D r (j + d) then D (ch D r (j + d)).toNat else -1) < 0
    have := ch_neg h d
    rw [if_neg (by omega)]
    omega
theorem ch_rise {D : Nat → Int} {p r : Int} {j : Nat} (hD : ∀ q : Nat, (q : Int) < p → D q = -1 ∨ ((q : Int) < D q ∧ D q < p)) (h : ChEnd D p r j) {i : Nat} (hi : i + 1 < j) : ch D r i < ch D r (i + 1) := by
  obtain ⟨h1, h2⟩ := h.2.2 i (by omega)
  obtain ⟨h3, _⟩ := h.2.2 (i + 1) hi
  have e : ch D r (i + 1) = D (ch D r i).toNat := by
    show (if 0 ≤ ch D r i then D (ch D r i).toNat else -1) = _
    rw [if_pos h1]
  rw [e] at h3 ⊢
  rcases hD (ch D r i).toNat (by omega) with h4 | h4 <;> omega
theorem abo_rise {p : Int} {n : Nat} {L H : Nat → Int} {r : Int} {j : Nat} (h : AboLen p n L H r j) {i : Nat} (hi : i + 1 < j) : ch (sp L H n n) r i < ch (sp L H n n) r (i + 1) := by
  unfold AboLen at h
  split at h
  · next hh =>
    have h' : (1 ≤ p ∧ p ≤ 24) ∧ edB p L H n = true := by simpa [edgesB, inB] using hh.1
    exact ch_rise (p := p) (fun q hq => sp_in (edB_at n h'.2) q n (Nat.le_refl _)) h hi
  · omega
/-- The parent is the High of the first edge that has the rank as Low. -/
theorem sp_first {L H : Nat → Int} {n : Nat} (a : Nat) : ∀ d, d ≤ n → (∃ i, n - d ≤ i ∧ i < n ∧ L i = (a : Int)) → ∃ i, n - d ≤ i ∧ i < n ∧ L i = (a : Int) ∧ sp L H n d a = H i ∧ ∀ k, n - d ≤ k → k < n → L k = (a : Int) → i ≤ k
  | 0, _, ⟨i, h1, h2, _⟩ => by omega
  | d + 1, hd, ⟨i, h1, h2, h3⟩ => by
    by_cases e : L (n - 1 - d) = (a : Int)
    · refine ⟨n - 1 - d, by omega, by omega, e, ?_, fun k hk _ _ => by omega⟩
      show (if L (n - 1 - d) = (a : Int) then H (n - 1 - d) else sp L H n d a) = _
      rw [if_pos e]
    · have hne : i ≠ n - 1 - d := fun h => e (by rw [← h]; exact h3)
      obtain ⟨i', a1, a2, a3, a4, a5⟩ := sp_first (H := H) a d (by omega) ⟨i, by omega, h2, h3⟩
      refine ⟨i', by omega, a2, a3, ?_, fun k hk hk2 hk3 => ?_⟩
      · show (if L (n - 1 - d) = (a : Int) then H (n - 1 - d) else sp L H n d a) = _
        rw [if_neg e]
        exact a4
      · have : k ≠ n - 1 - d := fun h => e (by rw [← h]; exact hk3)
        exact a5 k (by omega) hk2 hk3
theorem chain_has {D : Nat → Int} {E : Nat → Nat → Prop} (hD : ∀ a b, E a b → ∃ u : Nat, D a = (u : Int) ∧ E a u ∧ u ≤ b) (hlt : ∀ a b, E a b → a < b) (hch : ∀ a u v, E a u → E a v → u < v → E u v) : ∀ (d a b : Nat), b - a ≤ d → E a b → ∃ i, ch D (a : Int) i = (b : Int)
  | 0, a, b, h1, h2 => by have := hlt a b h2; omega
  | d + 1, a, b, h1, h2 => by
    obtain ⟨u, hu, h3, h4⟩ := hD a b h2
    have hau := hlt a u h3
    by_cases e : u = b
    · subst e
      refine ⟨1, ?_⟩
      show (if 0 ≤ (a : Int) then D (a : Int).toNat else -1) = _
      rw [if_pos (by omega), Int.toNat_natCast, hu]
    · obtain ⟨i, hi⟩ := chain_has hD hlt hch d u b (by omega) (hch a u b h3 h2 (by omega))
      refine ⟨i + 1, ?_⟩
      rw [ch_shift D (by omega) i, Int.toNat_natCast, hu]
      exact hi
/-- In a fill: the chain from an edge's lower end meets its upper end. -/
theorem fill_chain {B : Nat → Nat → Bool} {P : Nat → Int} {p : Nat} (hp1 : 1 ≤ p) (hp : p ≤ 24) (he : eachB p P p = true) {l : List (Int × Int)} (hl : allS B P p p = l) {k : Nat} (hk : k < l.length) :
    ∃ j, j ≤ 24 ∧ AboLen (p : Int) l.length (Lf l) (Hf l) (Lf l k) j ∧ ∃ i, i < j ∧ ch (sp (Lf l) (Hf l) l.length l.length) (Lf l k) i = Hf l k := by
  have hok := fill_ok (B := B) hp1 hp he
  have hall : ∀ x ∈ allS B P p p, ∃ r h : Nat, r < h ∧ h < p ∧ sqO B P r (P r).toNat (P h).toNat = true ∧ x = ((r : Int), (h : Int)) := fun x hx => by
    obtain ⟨r, h, _, h2, h3, h4, h5⟩ := (mem_allS x p).1 hx
    exact ⟨r, h, h3, h2, h4, h5⟩
  have hsrt := srt_allS (B := B) (P := P) (p := p) p
  have hin : ∀ r h : Nat, r < h → h < p → sqO B P r (P r).toNat (P h).toNat = true → ((r : Int), (h : Int)) ∈ allS B P p p := fun r h h1 h2 h3 => (mem_allS _ p).2 ⟨r, h, by omega, h2, h1, h3, rfl⟩
  rw [hl] at hok hall hsrt hin
  have hE : ∀ a b : Nat, ((a : Int), (b : Int)) ∈ l → a < b ∧ b < p ∧ sqO B P a (P a).toNat (P b).toNat = true := fun a b h => by
    obtain ⟨r, h', h1, h2, h3, h4⟩ := hall _ h
    have e1 : (a : Int) = (r : Int) := congrArg Prod.fst h4
    have e2 : (b : Int) = (h' : Int) := congrArg Prod.snd h4
    have e1' : a = r := by omega
    have e2' : b = h' := by omega
    subst e1' e2'
    exact ⟨h1, h2, h3⟩
  obtain ⟨a, b, h1, h2, h3, h4⟩ := hall _ (List.getElem_mem hk)
  have eL : Lf l k = (a : Int) := by unfold Lf; rw [getD_at hk, h4]
  have eH : Hf l k = (b : Int) := by unfold Hf; rw [getD_at hk, h4]
  have hab : ((a : Int), (b : Int)) ∈ l := by rw [← h4]; exact List.getElem_mem hk
  obtain ⟨j, j1, j2⟩ := aboLen_some (p : Int) l.length (Lf l) (Hf l) (Lf l k)
  refine ⟨j, j1, j2, ?_⟩
  have hcd : ChEnd (sp (Lf l) (Hf l) l.length l.length) p (Lf l k) j := by
    unfold AboLen at j2
    rw [if_pos ⟨hok.1, by rw [eL]; simp [inB]; omega⟩] at j2
    exact j2
  rw [eL, eH] at *
  obtain ⟨i, hi⟩ := chain_has (D := sp (Lf l) (Hf l) l.length l.length) (E := fun a b => ((a : Int), (b : Int)) ∈ l) (fun a b h => by
      obtain ⟨q, hq, e1, e2⟩ := hs_mem.2 h
      obtain ⟨i0, i1, i2, i3, i4, i5⟩ := sp_first (H := Hf l) a l.length (Nat.le_refl _) ⟨q, by omega, hq, e1⟩
      obtain ⟨r, u, u1, u2, u3, u4⟩ := hall _ (List.getElem_mem i2)
      have f1 : Lf l i0 = (r : Int) := by unfold Lf; rw [getD_at i2, u4]
      have f2 : Hf l i0 = (u : Int) := by unfold Hf; rw [getD_at i2, u4]
      have hra : r = a := by omega
      subst hra
      refine ⟨u, by rw [i4, f2], by rw [← u4]; exact List.getElem_mem i2, ?_⟩
      have hle := i5 q (by omega) hq e1
      by_cases e : i0 = q
      · subst e; omega
      · have hlt := List.pairwise_iff_getElem.1 hsrt i0 q i2 hq (by omega)
        have g1 : l[q] = ((r : Int), (b : Int)) := Prod.ext (by have := e1; unfold Lf at this; rwa [getD_at hq] at this) (by have := e2; unfold Hf at this; rwa [getD_at hq] at this)
        rw [u4, g1, lt2_iff] at hlt
        simp at hlt
        omega) (fun a b h => (hE a b h).1) (fun a u v h5 h6 h7 => by
      obtain ⟨a1, a2, a3⟩ := hE a u h5
      obtain ⟨b1, b2, b3⟩ := hE a v h6
      exact hin u v h7 b2 (fill_chord he a1 h7 b2 a3 b3)) (b - a) a b (Nat.le_refl _) hab
  refine ⟨i, ?_, hi⟩
  by_cases hij : i < j
  · exact hij
  · have := ch_neg hcd.2.1 (i - j)
    have e : j + (i - j) = i := by omega
    rw [e, hi] at this
    omega

end Go.Proofs.Ytaddhiojahmbpab
