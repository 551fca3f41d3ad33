/-
  Answer, the document's and the program's: the distance as text, or no.
-/
import Derived.Test.YticckgmkhgnmfaaDoorDistWholeP
import Derived.Test.YticckgmkhgnmfaaDoorPack4
set_option linter.unusedVariables false
set_option linter.unusedSimpArgs false
namespace Go.Proofs.YticckgmkhgnmfaaDoor
open Go.RowKit Go.Maps
attribute [local go_sem ↓] Go.wp_at_zero Go.wp_at_succ

/-- The text of a distance in a list of N. -/
def dT (N : Nat) (D : Nat → Int) (b : Int) : List UInt8 := if inB b 0 ((N : Int) - 1) = true ∧ D b.toNat ≠ 1000000000000 then Lib.decDigits (D b.toNat).toNat else [110, 111]
theorem dT_out {N : Nat} {D : Nat → Int} {b : Int} (h : inB b 0 ((N : Int) - 1) = false) : dT N D b = [110, 111] := by simp [dT, h]
theorem dT_far {N : Nat} {D : Nat → Int} {b : Nat} (h : D b = 1000000000000) : dT N D (b : Int) = [110, 111] := by simp [dT, h]
theorem dT_in {N : Nat} {D : Nat → Int} {b : Nat} (h : inB (b : Int) 0 ((N : Int) - 1) = true) (h' : D b ≠ 1000000000000) : dT N D (b : Int) = Lib.decDigits (D b).toNat := by simp [dT, h, h']
theorem listD_in {p : Int} {n : Nat} {F T G : Nat → Int} {s : Int} {v : Nat} (h : v < lenD p n F T G s) : 0 ≤ listD p n F T G s v ∧ listD p n F T G s v ≤ 1000000000000 := by
  unfold lenD at h
  split at h
  · next hk =>
    simp only [okD, Bool.and_eq_true] at hk
    have hp : 1 ≤ p ∧ p ≤ 24 := by simpa [inB] using graphB_p hk.1
    obtain ⟨pn, rfl⟩ : ∃ pn : Nat, p = (pn : Int) := ⟨p.toNat, by omega⟩
    have harc := arcs_of (graphB_arcs hk.1).2
    unfold listD
    exact ⟨turns_lo harc (fun v => (start_lo s.toNat v).1) _ v, Int.le_trans (turns_le F T G n (start s.toNat) v _) (start_lo s.toNat v).2⟩
  · omega
set_option maxHeartbeats 1000000 in
theorem specAnswer_any (p : Int) (ao : Option Addr) (n cap : Nat) (F T G : Nat → Int) (a b : Int) (hn : n ≤ 1048576) (w : World) (hr : Row w ao n F T G) :
    Calls Tryd.prog 36 #[.agg #[.int .i64 p, .slice ao n cap], .int .i64 a, .int .i64 b] w fun e w' => e = .returned (txt (dT (lenD p n F T G a) (listD p n F T G a) b)) ∧ Below w.heap.size w w' := by
  have hal := (Below.refl w.heap.size w).alloc (Nat.le_refl _) (.cells #[.int .i64 p, .slice ao n cap] 40)
  have hds := fun W h => specDistances_any p ao n cap F T G a hn W h
  have hin := fun v (h : v < lenD p n F T G a) => listD_in h
  have hN24 : lenD p n F T G a ≤ 9223372036854775807 := by
    unfold lenD
    split
    · next hk =>
      simp only [okD, Bool.and_eq_true] at hk
      have := graphB_p hk.1
      simp [inB] at this
      omega
    · omega
  generalize lenD p n F T G a = N at hds hin hN24 ⊢
  generalize listD p n F T G a = D at hds hin ⊢
  have hrw := hr.below hal (Nat.le_refl _)
  rcases Bool.eq_false_or_eq_true (inB b 0 ((N : Int) - 1)) with h | h
  rotate_left
  · rw [dT_out h]
    have hq : ∀ W, Calls Tryd.prog 21 #[.int .i64 b, .int .i64 0, .int .i64 ((N : Int) - 1)] W fun e w' => e = .returned (.bool false) ∧ w' = W := fun W => (l1In_any b 0 ((N : Int) - 1) W).mono (fun e w' h' => ⟨by rw [h'.1, h], h'.2⟩)
    go_enter Tryd.func36, Tryd.ntmps36
    go_wp2_with fail
    refine (hds _ hrw).mono ?_
    rintro e w1 ⟨aoD, capD, rfl, hD, hb1⟩
    go_wp2_with fail
    refine (hq _).mono ?_
    rintro e w2 ⟨rfl, rfl⟩
    go_wp2
    go_ret
    exact ⟨rfl, below_next hal (Nat.le_refl _) hb1⟩
  have hbb : 0 ≤ b ∧ b ≤ (N : Int) - 1 := by simpa [inB] using h
  obtain ⟨bn, rfl⟩ : ∃ bn : Nat, b = (bn : Int) := ⟨b.toNat, by omega⟩
  have hlt : bn < N := by omega
  have hq : ∀ W, Calls Tryd.prog 21 #[.int .i64 (bn : Int), .int .i64 0, .int .i64 ((N : Int) - 1)] W fun e w' => e = .returned (.bool true) ∧ w' = W := fun W => (l1In_any (bn : Int) 0 ((N : Int) - 1) W).mono (fun e w' h' => ⟨by rw [h'.1, h], h'.2⟩)
  have hlt' : (bn : Int) < (N : Int) := by omega
  have hb0 : (0 : Int) ≤ (bn : Int) := by omega
  have hD0 := hin bn hlt
  by_cases hf : D bn = 1000000000000
  · rw [dT_far hf]
    go_enter Tryd.func36, Tryd.ntmps36
    go_wp2_with fail
    refine (hds _ hrw).mono ?_
    rintro e w1 ⟨aoD, capD, rfl, hD, hb1⟩
    obtain ⟨g, rfl, _, hI⟩ := hD (by omega)
    have c0 := hI.cell hlt
    rw [hf] at c0
    go_wp2_with fail
    refine (hq _).mono ?_
    rintro e w2 ⟨rfl, rfl⟩
    go_wp2
    go_ret
    exact ⟨rfl, below_next hal (Nat.le_refl _) hb1⟩
  · rw [dT_in h hf]
    obtain ⟨dn, hdn⟩ : ∃ dn : Nat, D bn = (dn : Int) := ⟨(D bn).toNat, by omega⟩
    have hdf : ¬ (dn : Int) = 1000000000000 := by rw [← hdn]; exact hf
    have hdl : dn ≤ 1000000000000 := by omega
    go_enter Tryd.func36, Tryd.ntmps36
    go_wp2_with fail
    refine (hds _ hrw).mono ?_
    rintro e w1 ⟨aoD, capD, rfl, hD, hb1⟩
    obtain ⟨g, rfl, _, hI⟩ := hD (by omega)
    have c0 := hI.cell hlt
    rw [hdn] at c0
    go_wp2_with fail
    refine (hq _).mono ?_
    rintro e w2 ⟨rfl, rfl⟩
    go_wp2_with fail
    refine (l1Int_any dn hdl _).mono ?_
    rintro e w3 ⟨rfl, hb3⟩
    go_wp2
    go_ret
    exact ⟨by rw [hdn]; rfl, below_next (below_next hal (Nat.le_refl _) hb1) (Nat.le_refl _) hb3⟩

theorem showDistance_far (w : World) : Calls Tryd.prog 71 #[.int .i64 1000000000000] w fun e w' => e = .returned (txt [110, 111]) ∧ Below w.heap.size w w' := by
  go_enter Tryd.func71, Tryd.ntmps71
  go_wp2
  go_ret
  exact ⟨rfl, Below.refl _ _⟩
theorem showDistance_in (dn : Nat) (h : ¬ (dn : Int) = 1000000000000) (hd : dn ≤ 1000000000000) (w : World) (ht : Tab w) : Calls Tryd.prog 71 #[.int .i64 (dn : Int)] w fun e w' => e = .returned (txt (Lib.decDigits dn)) ∧ Below w.heap.size w w' := by
  go_enter Tryd.func71, Tryd.ntmps71
  go_wp2_with fail
  refine (showNumber_any (dn : Int) (by omega) (by omega) _ ht).mono ?_
  rintro e w1 ⟨rfl, hb1⟩
  go_wp2
  go_ret
  exact ⟨rfl, hb1⟩
set_option maxHeartbeats 1000000 in
theorem implAnswer_any (p : Int) (ao : Option Addr) (n cap : Nat) (F T G : Nat → Int) (a b : Int) (hn : n ≤ 1048576) (w : World) (ht : Tab w) (hr : Row w ao n F T G) :
    Calls Tryd.prog 42 #[.agg #[.int .i64 p, .slice ao n cap], .int .i64 a, .int .i64 b] w fun e w' => e = .returned (txt (dT (lenD p n F T G a) (listD p n F T G a) b)) ∧ Below w.heap.size w w' := by
  have hal := (Below.refl w.heap.size w).alloc (Nat.le_refl _) (.cells #[.int .i64 p, .slice ao n cap] 40)
  have hds := fun W h => implDistances_any p ao n cap F T G a hn W h
  have hin := fun v (h : v < lenD p n F T G a) => listD_in h
  generalize lenD p n F T G a = N at hds hin ⊢
  generalize listD p n F T G a = D at hds hin ⊢
  have hrw := hr.below hal (Nat.le_refl _)
  rcases Bool.eq_false_or_eq_true (inB b 0 ((N : Int) - 1)) with h | h
  rotate_left
  · rw [dT_out h]
    have hq : ∀ W, Calls Tryd.prog 70 #[.int .i64 b, .int .i64 (N : Int)] W fun e w' => e = .returned (.bool false) ∧ w' = W := fun W => (placeOk_any b (N : Int) W).mono (fun e w' h' => ⟨by rw [h'.1, h], h'.2⟩)
    go_enter Tryd.func42, Tryd.ntmps42
    go_wp2_with fail
    refine (hds _ hrw).mono ?_
    rintro e w1 ⟨aoD, capD, rfl, hD, hb1⟩
    go_wp2_with fail
    refine (hq _).mono ?_
    rintro e w2 ⟨rfl, rfl⟩
    go_wp2
    go_ret
    exact ⟨rfl, below_next hal (Nat.le_refl _) hb1⟩
  have hbb : 0 ≤ b ∧ b ≤ (N : Int) - 1 := by simpa [inB] using h
  obtain ⟨bn, rfl⟩ : ∃ bn : Nat, b = (bn : Int) := ⟨b.toNat, by omega⟩
  have hlt : bn < N := by omega
  have hq : ∀ W, Calls Tryd.prog 70 #[.int .i64 (bn : Int), .int .i64 (N : Int)] W fun e w' => e = .returned (.bool true) ∧ w' = W := fun W => (placeOk_any (bn : Int) (N : Int) W).mono (fun e w' h' => ⟨by rw [h'.1, h], h'.2⟩)
  have hlt' : (bn : Int) < (N : Int) := by omega
  have hb0 : (0 : Int) ≤ (bn : Int) := by omega
  have hD0 := hin bn hlt
  obtain ⟨dn, hdn⟩ : ∃ dn : Nat, D bn = (dn : Int) := ⟨(D bn).toNat, by omega⟩
  have HSH : Hid (∀ W, Tab W → Calls Tryd.prog 71 #[.int .i64 (dn : Int)] W fun e w' => e = .returned (txt (dT N D (bn : Int))) ∧ Below W.heap.size W w') := fun W hT => by
    by_cases hf : D bn = 1000000000000
    · rw [dT_far hf]
      rw [hdn] at hf
      rw [hf]
      exact showDistance_far W
    · rw [dT_in h hf]
      rw [hdn] at hf ⊢
      exact showDistance_in dn hf (by omega) W hT
  go_enter Tryd.func42, Tryd.ntmps42
  go_wp2_with fail
  refine (hds _ hrw).mono ?_
  rintro e w1 ⟨aoD, capD, rfl, hD, hb1⟩
  obtain ⟨g, rfl, _, hI⟩ := hD (by omega)
  have c0 := hI.cell hlt
  rw [hdn] at c0
  have hB1 := below_next hal (Nat.le_refl _) hb1
  go_wp2_with fail
  refine (hq _).mono ?_
  rintro e w2 ⟨rfl, rfl⟩
  go_wp2_with fail
  refine (HSH.out _ (ht.below hB1 (Nat.le_refl _))).mono ?_
  rintro e w3 ⟨rfl, hb3⟩
  go_wp2
  go_ret
  exact ⟨rfl, below_next hB1 (Nat.le_refl _) hb3⟩

end Go.Proofs.YticckgmkhgnmfaaDoor
