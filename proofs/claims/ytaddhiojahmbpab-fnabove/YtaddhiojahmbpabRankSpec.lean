/-
  Ranks, the document's: which lists have each number once, and each number's place. For every list of at most 2^20 numbers.
-/
import Derived.Test.YtaddhiojahmbpabIn
import Derived.Test.YtaddhiojahmbpabRank
import Derived.Test.YtaddhiojahmbpabCells
import Derived.Test.YtaddhiojahmbpabAns
set_option linter.unusedVariables false
set_option linter.unusedSimpArgs false
namespace Go.Proofs.Ytaddhiojahmbpab
open Go.RowKit
attribute [local go_sem ↓] Go.wp_at_zero Go.wp_at_succ

set_option maxHeartbeats 1000000 in
theorem l3Each_any (ao : Option Addr) (n cap : Nat) (P : Nat → Int) (hn : n ≤ 1048576) (w : World) (hr : IRow w ao n P) :
    Calls Try.prog 23 #[.slice ao n cap] w fun e w' => e = .returned (.bool (okR n P)) ∧ Below w.heap.size w w' := by
  by_cases h1 : n < 1
  · have h1' : (n : Int) < 1 := by omega
    go_enter Try.func23, Try.ntmps23
    go_wp2
    go_ret
    exact ⟨ret_bool (by simp [okR]; omega), Below.refl _ _⟩
  have h1' : ¬ (n : Int) < 1 := by omega
  by_cases h2 : 24 < n
  · have h2' : 24 < (n : Int) := by omega
    go_enter Try.func23, Try.ntmps23
    go_wp2
    go_ret
    exact ⟨ret_bool (by simp [okR]; omega), Below.refl _ _⟩
  have h2' : ¬ 24 < (n : Int) := by omega
  have hmk := make_bools n hn
  go_enter Try.func23, Try.ntmps23
  go_wp2
  clear hmk
  go_loopw [5] (fun i wr => ∃ k : Nat, k ≤ n ∧ i = .int .i64 k ∧ eachB n P k = true ∧ BHas wr w.heap.size n (sn P k) ∧ Below w.heap.size w wr) (fun i _ => n - (intOf i).toNat)
  case atStart => exact ⟨0, Nat.zero_le _, rfl, rfl, (made_bools w n).same (fun j _ => by simp [sn]), (Below.refl _ _).alloc (Nat.le_refl _) _⟩
  case round =>
    obtain ⟨k, hk, rfl, hea, hown, hbel⟩ := hrel
    have HE : Hid (eachB n P k = true) := hea
    clear hea
    by_cases hlt : k < n
    rotate_left
    · have hkn : k = n := by omega
      subst hkn
      go_wp2
      go_ret
      exact ⟨ret_bool (by simp [okR, HE.out]; omega), hbel⟩
    obtain ⟨b, o, hao, c0⟩ := (hr.below hbel (Nat.le_refl _)) k hlt
    subst hao
    rcases Bool.eq_false_or_eq_true (inB (P k) 0 ((n : Int) - 1)) with hi | hi
    rotate_left
    · have HN : Hid (eachB n P (k + 1) = false) := by show eachB n P (k + 1) = false; simp [eachB, hi]
      go_wp2_with (go_at_call 18; refine (l1In_any _ _ _ _).mono ?_; rintro e w1 ⟨rfl, rfl⟩)
      go_ret
      exact ⟨ret_bool (by simp [okR, eachB_no HN.out hlt]), hbel⟩
    have hq0 : 0 ≤ P k ∧ P k ≤ (n : Int) - 1 := by simpa [inB] using hi
    obtain ⟨q, hq⟩ : ∃ q : Nat, P k = (q : Int) := ⟨(P k).toNat, by omega⟩
    have hS : Hid (∀ j, sn P (k + 1) j = if j = q then true else sn P k j) := sn_at hq
    have hE : Hid (eachB n P (k + 1) = !sn P k q) := eachB_at HE.out hq hi
    rw [hq] at c0 hi hq0
    clear hq
    have hqn : q < n := by omega
    have d0 := VHas.cell hown hqn
    have z0 := VHas.frozen hown q
    have R := hown.put q true
    have S := hbel.setCell (p := ⟨w.heap.size, q, none⟩) (Nat.le_refl _) (.bool true)
    have hqn' : (q : Int) < (n : Int) := by omega
    rcases Bool.eq_false_or_eq_true (sn P k q) with hs | hs
    · rw [hs] at d0
      go_wp2_with (go_at_call 18; refine (l1In_any _ _ _ _).mono ?_; rintro e w1 ⟨rfl, rfl⟩)
      go_ret
      exact ⟨ret_bool (by simp [okR, eachB_no (by rw [hE.out, hs]; rfl) hlt]), hbel⟩
    · rw [hs] at d0
      clear hown
      go_wp2_with (go_at_call 18; refine (l1In_any _ _ _ _).mono ?_; rintro e w1 ⟨rfl, rfl⟩)
      go_roundw
      case rel => exact ⟨k + 1, by omega, by go_num, by rw [hE.out, hs]; rfl, R.same (fun j _ => (hS.out j).symm), S⟩
      case measure => simp [intOf]; omega
set_option maxHeartbeats 1000000 in
theorem l3Ranks_any (ao : Option Addr) (n cap : Nat) (P : Nat → Int) (h24 : n ≤ 24) (he : eachB n P n = true) (w : World) (hr : IRow w ao n P) :
    Calls Try.prog 33 #[.slice ao n cap] w fun e w' => e = .returned (.slice (some ⟨w.heap.size, 0, none⟩) n n) ∧ IHas w' w.heap.size n (rk P 0 n) ∧ Below w.heap.size w w' := by
  have HE : Hid (eachB n P n = true) := he
  clear he
  have hmk := make_ints n (by omega)
  go_enter Try.func33, Try.ntmps33
  go_wp2
  clear hmk
  go_loopw [4] (fun i wr => ∃ k : Nat, k ≤ n ∧ i = .int .i64 k ∧ IHas wr w.heap.size n (rk P 0 k) ∧ Below w.heap.size w wr) (fun i _ => n - (intOf i).toNat)
  case atStart => exact ⟨0, Nat.zero_le _, rfl, (made_ints w n).congr (fun j _ => by simp [rk]), (Below.refl _ _).alloc (Nat.le_refl _) _⟩
  case round =>
    obtain ⟨k, hk, rfl, hown, hbel⟩ := hrel
    by_cases hlt : k < n
    rotate_left
    · have hkn : k = n := by omega
      subst hkn
      go_wp2
      go_ret
      exact ⟨rfl, hown, hbel⟩
    obtain ⟨b, o, hao, c0⟩ := (hr.below hbel (Nat.le_refl _)) k hlt
    subst hao
    have hi : inB (P k) 0 ((n : Int) - 1) = true := by
      have := eachB_le n HE.out (k + 1) (by omega)
      simp [eachB] at this
      exact this.2.1
    have hq0 : 0 ≤ P k ∧ P k ≤ (n : Int) - 1 := by simpa [inB] using hi
    clear hi
    obtain ⟨q, hq⟩ : ∃ q : Nat, P k = (q : Int) := ⟨(P k).toNat, by omega⟩
    have hS : Hid (∀ j, rk P 0 (k + 1) j = if j = q then (k : Int) else rk P 0 k j) := rk_at hq
    rw [hq] at c0 hq0
    clear hq
    have hqn : q < n := by omega
    have d0 := hown.cell hqn
    have z0 := hown.frozen q
    have R := hown.set q (k : Int)
    have S := hbel.setCell (p := ⟨w.heap.size, q, none⟩) (Nat.le_refl _) (.int .i64 (k : Int))
    have hqn' : (q : Int) < (n : Int) := by omega
    clear hown
    go_wp2
    go_roundw
    case rel => exact ⟨k + 1, by omega, by go_num, R.congr (fun j _ => (hS.out j).symm), S⟩
    case measure => simp [intOf]; omega

end Go.Proofs.Ytaddhiojahmbpab
