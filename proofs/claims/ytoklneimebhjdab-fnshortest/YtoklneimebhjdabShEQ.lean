/-
  A right map has distances, plainly: the document's turns come to an end.
-/
import Derived.Test.YtoklneimebhjdabDistQ
set_option linter.unusedVariables false
set_option linter.unusedSimpArgs false
namespace Go.Proofs.Ytoklneimebhjdab

/-- What holds from turn to turn. -/
structure Rch (n : Nat) (F T G : Nat → Int) (s : Nat) (d : Nat → Int) : Prop where
  zero : d s = 0
  lo : ∀ v, 0 ≤ d v
  hi : ∀ v, d v ≤ 1000000000000
  via : ∀ v, v ≠ s → d v < 1000000000000 → ∃ k, k < n ∧ (T k).toNat = v ∧ d (F k).toNat + G k ≤ d v
theorem rch_relax {p n : Nat} {F T G : Nat → Int} {s : Nat} {d : Nat → Int} (hA : Arcs p n F T G) (h : Rch n F T G s d) {k : Nat} (hk : k < n) : Rch n F T G s (relax F T G d k) := by
  have a := hA k hk
  have hle := relax_le F T G d k
  have ev : ∀ v, relax F T G d k v = if v = (T k).toNat then min (d (T k).toNat) (min 1000000000000 (d (F k).toNat + G k)) else d v := fun v => rfl
  have l1 := h.lo (F k).toNat
  refine ⟨?_, fun v => ?_, fun v => Int.le_trans (hle v) (h.hi v), fun v hv hf => ?_⟩
  · rw [ev]
    split
    · rename_i e
      rw [← e, h.zero]
      omega
    · exact h.zero
  · rw [ev]
    split
    · have := h.lo (T k).toNat; omega
    · exact h.lo v
  · by_cases e : v = (T k).toNat
    · by_cases q : relax F T G d k v = d v
      · rw [q] at hf ⊢
        obtain ⟨t, ht, e1, e2⟩ := h.via v hv hf
        have := hle (F t).toNat
        exact ⟨t, ht, e1, by omega⟩
      · refine ⟨k, hk, e.symm, ?_⟩
        have l2 := hle (F k).toNat
        rw [ev v, if_pos e] at q hf ⊢
        rw [e] at q
        omega
    · have q : relax F T G d k v = d v := by rw [ev, if_neg e]
      rw [q] at hf ⊢
      obtain ⟨t, ht, e1, e2⟩ := h.via v hv hf
      have := hle (F t).toNat
      exact ⟨t, ht, e1, by omega⟩
theorem rch_turnTo {p n : Nat} {F T G : Nat → Int} {s : Nat} {d : Nat → Int} (hA : Arcs p n F T G) (h : Rch n F T G s d) : ∀ k, k ≤ n → Rch n F T G s (turnTo F T G d k)
  | 0, _ => h
  | k + 1, hk => rch_relax hA (rch_turnTo hA h k (by omega)) (by omega)
theorem sumTo_nn {f : Nat → Int} (h : ∀ v, 0 ≤ f v) : ∀ n, 0 ≤ sumTo f n
  | 0 => Int.le_refl _
  | n + 1 => by simp only [sumTo]; have := sumTo_nn h n; have := h n; omega
theorem sumTo_lt {f g : Nat → Int} {v : Nat} (hl : ∀ j, f j ≤ g j) (hv : f v < g v) : ∀ n, v < n → sumTo f n < sumTo g n
  | 0, h => by omega
  | n + 1, h => by
    simp only [sumTo]
    by_cases e : v = n
    · subst e
      have := sumTo_le (f := f) (g := g) v (fun j _ => hl j)
      omega
    · have := sumTo_lt hl hv n (by omega)
      have := hl n
      omega
/-- There are distances. -/
theorem sol_ex {p n : Nat} {F T G : Nat → Int} {s : Nat} (hA : Arcs p n F T G) : ∃ D, Sol p n F T G s D := by
  have main : ∀ B : Nat, ∀ d, Rch n F T G s d → (sumTo d p).toNat ≤ B → ∃ D, Sol p n F T G s D := by
    intro B
    induction B with
    | zero =>
      intro d h hB
      by_cases st : ∀ v, v < p → turnTo F T G d n v = d v
      · exact ⟨d, h.zero, fun v _ => h.lo v, fun v _ => h.hi v, fun k hk => by
          have := turnTo_at F T G d hk
          have a := hA k hk
          rw [st (T k).toNat (by omega)] at this
          exact this, fun v _ hv hf => h.via v hv hf⟩
      · obtain ⟨v, hv⟩ := Classical.not_forall.1 st
        obtain ⟨hv, hne⟩ := Classical.not_imp.1 hv
        have l := turnTo_le F T G d v n
        have h2 := rch_turnTo hA h n (Nat.le_refl _)
        have := sumTo_lt (f := turnTo F T G d n) (g := d) (v := v) (fun j => turnTo_le F T G d j n) (by omega) p hv
        have := sumTo_nn h2.lo p
        omega
    | succ B ih =>
      intro d h hB
      by_cases st : ∀ v, v < p → turnTo F T G d n v = d v
      · exact ⟨d, h.zero, fun v _ => h.lo v, fun v _ => h.hi v, fun k hk => by
          have := turnTo_at F T G d hk
          have a := hA k hk
          rw [st (T k).toNat (by omega)] at this
          exact this, fun v _ hv hf => h.via v hv hf⟩
      · obtain ⟨v, hv⟩ := Classical.not_forall.1 st
        obtain ⟨hv, hne⟩ := Classical.not_imp.1 hv
        have l := turnTo_le F T G d v n
        have h2 := rch_turnTo hA h n (Nat.le_refl _)
        have q := sumTo_lt (f := turnTo F T G d n) (g := d) (v := v) (fun j => turnTo_le F T G d j n) (by omega) p hv
        have := sumTo_nn h2.lo p
        exact ih _ h2 (by omega)
  refine main _ (start s) ⟨by simp [start], fun v => ?_, fun v => ?_, fun v hv hf => ?_⟩ (Nat.le_refl _)
  · unfold start; split <;> omega
  · unfold start; split <;> omega
  · unfold start at hf
    rw [if_neg hv] at hf
    omega

end Go.Proofs.Ytoklneimebhjdab
