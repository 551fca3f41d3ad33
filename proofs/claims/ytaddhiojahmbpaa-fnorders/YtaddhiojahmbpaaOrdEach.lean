/-
  An order has each place once, and ranks are the other way round: the plain part.
-/
import Derived.Test.YtaddhiojahmbpaaFillP
import Derived.Test.YtaddhiojahmbpaaOrdImpl
set_option linter.unusedVariables false
set_option linter.unusedSimpArgs false
namespace Go.Proofs.Ytaddhiojahmbpaa

theorem sn_congr {P P' : Nat → Int} : ∀ k, (∀ j, j < k → P j = P' j) → ∀ q, sn P k q = sn P' k q
  | 0, _, q => rfl
  | k + 1, h, q => by rw [sn_succ, sn_succ, h k (by omega), sn_congr k (fun j hj => h j (by omega)) q]
theorem eachB_congr {m : Nat} {P P' : Nat → Int} : ∀ k, (∀ j, j < k → P j = P' j) → eachB m P k = eachB m P' k
  | 0, _ => rfl
  | k + 1, h => by
    unfold eachB
    rw [eachB_congr k (fun j hj => h j (by omega)), h k (by omega), sn_congr k (fun j hj => h j (by omega))]
theorem run3_each {p : Nat} {B : Nat → Nat → Bool} (hB : Fair B) : ∀ k, k ≤ p → eachB p (run3 p B k).2.2 k = true ∧ ∀ q, sn (run3 p B k).2.2 k q = (run3 p B k).2.1 q
  | 0, _ => ⟨rfl, fun q => rfl⟩
  | k + 1, hk => by
    obtain ⟨h1, h2⟩ := run3_each (p := p) hB k (Nat.le_of_succ_le hk)
    have hp := pick_some (p := p) (run3_fair (p := p) hB k) p (Nat.le_refl _) ((run3_gone (p := p) hB k (Nat.le_of_succ_le hk)).2 (by omega))
    have e3 : (run3 p B (k + 1)).2.2 = fun j => if j = k then ((pick p (run3 p B k).1 (run3 p B k).2.1 p).1 : Int) else (run3 p B k).2.2 j := rfl
    have e2 : (run3 p B (k + 1)).2.1 = goneU (run3 p B k).2.1 (pick p (run3 p B k).1 (run3 p B k).2.1 p).1 := rfl
    generalize (pick p (run3 p B k).1 (run3 p B k).2.1 p).1 = a at hp e3 e2
    have hat : (run3 p B (k + 1)).2.2 k = (a : Int) := by rw [e3]; simp
    have hold : ∀ j, j < k → (run3 p B (k + 1)).2.2 j = (run3 p B k).2.2 j := fun j hj => by rw [e3]; simp only []; rw [if_neg (by omega)]
    have hi : inB ((run3 p B (k + 1)).2.2 k) 0 ((p : Int) - 1) = true := by rw [hat]; simp [inB]; omega
    have hsn : ∀ q, sn (run3 p B (k + 1)).2.2 k q = (run3 p B k).2.1 q := fun q => by rw [sn_congr k hold q, h2]
    refine ⟨?_, fun q => ?_⟩
    · rw [eachB_at (by rw [eachB_congr k hold]; exact h1) hat hi, hsn, hp.2.1]; rfl
    · rw [sn_at hat q, hsn, e2]; rfl
theorem each_of_inj {m n : Nat} {P : Nat → Int} (h1 : ∀ k, k < n → 0 ≤ P k ∧ P k < (m : Int)) (h2 : ∀ i j, i < n → j < n → P i = P j → i = j) : ∀ k, k ≤ n → eachB m P k = true
  | 0, _ => rfl
  | k + 1, hk => by
    have := h1 k (by omega)
    have hi : inB (P k) 0 ((m : Int) - 1) = true := by simp [inB]; omega
    have hs : sn P k (P k).toNat = false := by
      cases hs : sn P k (P k).toNat
      · rfl
      · obtain ⟨j, hj, e⟩ := (sn_mem k _).1 hs
        have := h2 j k (by omega) (by omega) (by omega)
        omega
    show (eachB m P k && (inB (P k) 0 ((m : Int) - 1) && !sn P k (P k).toNat)) = true
    rw [each_of_inj h1 h2 k (by omega), hi, hs]; rfl
/-- Ranks of an order are an order, and their ranks are it. -/
theorem ranks_back {n : Nat} {P : Nat → Int} (h : eachB n P n = true) : eachB n (rk P (-1) n) n = true ∧ ∀ j, j < n → rk (rk P (-1) n) (-1) n j = P j := by
  have h1 : ∀ k, k < n → 0 ≤ rk P (-1) n k ∧ rk P (-1) n k < (n : Int) := fun k hk => by
    obtain ⟨q, q1, _, q3⟩ := rk_of h (-1) hk
    omega
  have h2 : ∀ i j, i < n → j < n → rk P (-1) n i = rk P (-1) n j → i = j := fun i j hi hj e => rk_inj h hi hj e
  have he := each_of_inj h1 h2 n (Nat.le_refl _)
  refine ⟨he, fun j hj => ?_⟩
  have hP := (each_in n h j hj).1
  have := rk_is (-1) n he (P j).toNat (by omega)
  rw [rk_is (-1) n h j hj] at this
  rw [Int.toNat_natCast] at this
  omega
theorem order_each {p : Nat} {n : Nat} {F T G : Nat → Int} (h : graphB (p : Int) n F T G = true) : eachB p (listO (p : Int) n F T) p = true := by
  obtain ⟨_, _, hF, hT, hFT⟩ := ok_arcs h
  have hfair : Fair (nbA F T n) := fair_nbA n (fun k hk => by have := hF k hk; have := hT k hk; have := hFT k hk; omega)
  have := (run3_each (p := p) hfair p (Nat.le_refl _)).1
  simpa [listO] using this

end Go.Proofs.Ytaddhiojahmbpaa
