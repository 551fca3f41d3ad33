/-
  A map that is weighed anew is as right as it was, and has the last of the new weights, else its own.
-/
import Derived.Test.YthcgibpiogmmdaaRw
import Derived.Test.YthcgibpiogmmdaaOkP
import Derived.Test.YthcgibpiogmmdaaWeigh
set_option linter.unusedVariables false
set_option linter.unusedSimpArgs false
namespace Go.Proofs.Ythcgibpiogmmdaa

theorem rw_in {F T G A B C : Nat → Int} {n : Nat} (hG : ∀ k, k < n → inB (G k) 1 1000000 = true) : ∀ s H, rw' F T G A B C n s = some H → ∀ k, k < n → inB (H k) 1 1000000 = true
  | 0, H, h, k, hk => by
    simp [rw'] at h
    rw [← h]; exact hG k hk
  | s + 1, H, h, k, hk => by
    unfold rw' at h
    cases h1 : rw' F T G A B C n s with
    | none => rw [h1] at h; cases h
    | some H0 =>
      rw [h1] at h
      simp only at h
      split at h
      · next hc =>
        simp only [Option.some.injEq] at h
        have h2 := rw_in hG s H0 h1 k hk
        simp only [Bool.and_eq_true] at hc
        rw [← h]
        unfold put
        split
        · exact hc.2
        · exact h2
      · cases h
theorem arcsB_w {p : Int} {F T G H : Nat → Int} : ∀ n, arcsB p F T G n = true → (∀ k, k < n → inB (H k) 1 1000000 = true) → arcsB p F T H n = true
  | 0, _, _ => rfl
  | n + 1, h, hw => by
    have h1 := arcsB_w (H := H) n (by simp [arcsB] at h; exact h.1) (fun k hk => hw k (by omega))
    have h2 := hw n (by omega)
    have h3 : arcB (F n) (T n) (G n) p = true ∧ (n == 0 || upB (F (n - 1)) (T (n - 1)) (F n) (T n)) = true := by
      simp only [arcsB, Bool.and_eq_true] at h
      exact h.2
    have h4 : arcB (F n) (T n) (H n) p = true := by
      have := h3.1
      simp [arcB, inB] at this h2 ⊢
      omega
    simp only [arcsB, Bool.and_eq_true]
    exact ⟨h1, h4, h3.2⟩
theorem graphB_w {p : Int} {n : Nat} {F T G H : Nat → Int} (h : graphB p n F T G = true) (hw : ∀ k, k < n → inB (H k) 1 1000000 = true) : graphB p n F T H = true := by
  simp only [graphB, Bool.and_eq_true] at h ⊢
  exact ⟨h.1, h.2.1, arcsB_w n h.2.2 hw⟩
theorem arcs_in {p : Int} {F T G : Nat → Int} {n : Nat} (h : arcsB p F T G n = true) : ∀ k, k < n → inB (G k) 1 1000000 = true := fun k hk => by
  have := (arcsB_each n h k hk).1
  simp [arcB, inB] at this ⊢
  omega
/-- Behind a Reweigh that went through. -/
theorem res_ok {p : Int} {n : Nat} {F T G : Nat → Int} {s : Nat} {A B C H : Nat → Int} (h : resOf p n F T G s A B C = some H) : graphB p n F T H = true := by
  unfold resOf at h
  split at h
  · next hg => exact graphB_w hg (rw_in (arcs_in (graphB_arcs hg).2) s H h)
  · cases h
/-- The last weight for a pair of places in a list of arcs, else the one told. -/
def lwg (A B C : Nat → Int) (a b g : Int) : Nat → Int
  | 0 => g
  | k + 1 => if A k = a ∧ B k = b then C k else lwg A B C a b g k
theorem rw_last {F T G A B C : Nat → Int} {n : Nat} : ∀ s H, rw' F T G A B C n s = some H → ∀ k, k < n → H k = lwg A B C (F k) (T k) (G k) s
  | 0, H, h, k, hk => by
    simp [rw'] at h
    rw [← h]; rfl
  | s + 1, H, h, k, hk => by
    unfold rw' at h
    cases h1 : rw' F T G A B C n s with
    | none => rw [h1] at h; cases h
    | some H0 =>
      rw [h1] at h
      simp only at h
      split at h
      · simp only [Option.some.injEq] at h
        have h2 := rw_last s H0 h1 k hk
        rw [← h]
        unfold put lwg
        by_cases e : F k = A s ∧ T k = B s
        · rw [if_pos e, if_pos ⟨e.1.symm, e.2.symm⟩]
        · rw [if_neg e, if_neg (fun x => e ⟨x.1.symm, x.2.symm⟩), h2]
      · cases h
/-- The weight of an arc behind a Reweigh that went through. -/
theorem res_weight {p : Int} {n : Nat} {F T G : Nat → Int} {s : Nat} {A B C H : Nat → Int} (h : resOf p n F T G s A B C = some H) {k : Nat} (hk : k < n) : wOf p n F T H (F k) (T k) = lwg A B C (F k) (T k) (G k) s := by
  have hg := res_ok h
  have ha := (graphB_arcs hg).2
  unfold wOf
  rw [if_pos hg, lastW_at (k := k) n (fun j hj h1 h2 => unique ha hj hk h1 h2) hk rfl rfl]
  unfold resOf at h
  split at h
  · exact rw_last s H h k hk
  · cases h

end Go.Proofs.Ythcgibpiogmmdaa
