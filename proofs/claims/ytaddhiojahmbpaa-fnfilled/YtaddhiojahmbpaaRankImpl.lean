/-
  Ranks, the program's: the same list, in new memory. For every list of at most 2^20 numbers.
-/
import Derived.Test.YtaddhiojahmbpaaRankSpec
set_option linter.unusedVariables false
set_option linter.unusedSimpArgs false
namespace Go.Proofs.Ytaddhiojahmbpaa
open Go.RowKit
attribute [local go_sem ↓] Go.wp_at_zero Go.wp_at_succ

set_option maxHeartbeats 1000000 in
theorem implRanks_any (ao : Option Addr) (n cap : Nat) (P : Nat → Int) (hn : n ≤ 1048576) (w : World) (hr : IRow w ao n P) :
    Calls Try.prog 31 #[.slice ao n cap] w fun e w' => Ans w w' e (lenR n P) (rk P (-1) n) := by
  by_cases h2 : 24 < n
  · have h2' : 24 < (n : Int) := by omega
    have hL : lenR n P = 0 := by
      have : ¬ n ≤ 24 := by omega
      simp [lenR, okR, this]
    rw [hL]
    go_enter Try.func31, Try.ntmps31
    go_wp2
    go_ret
    exact ⟨_, _, rfl, fun h => by omega, (Below.refl _ _).alloc (Nat.le_refl _) _⟩
  have h2' : ¬ 24 < (n : Int) := by omega
  have hmk := make_ints n hn
  go_enter Try.func31, Try.ntmps31
  go_wp2
  clear hmk
  go_loopw [16] (fun i wr => ∃ k : Nat, k ≤ n ∧ i = .int .i64 k ∧ IHas wr w.heap.size n (fun j => if j < k then -1 else 0) ∧ Below w.heap.size w wr) (fun i _ => n - (intOf i).toNat)
  case atStart => exact ⟨0, Nat.zero_le _, rfl, (made_ints w n).congr (fun j _ => by simp), (Below.refl _ _).alloc (Nat.le_refl _) _⟩
  case round =>
    obtain ⟨k, hk, rfl, hown, hbel⟩ := hrel
    by_cases hlt : k < n
    · have d0 := hown.cell hlt
      have z0 := hown.frozen k
      have R := hown.set k (-1)
      have S := hbel.setCell (p := ⟨w.heap.size, k, none⟩) (Nat.le_refl _) (.int .i64 (-1))
      clear hown
      go_wp2
      go_roundw
      case rel =>
        refine ⟨k + 1, by omega, by go_num, R.congr (fun j hj => ?_), S⟩
        by_cases e : j = k
        · subst e; simp
        · simp only [if_neg e]
          by_cases hl : j < k
          · rw [if_pos hl, if_pos (by omega)]
          · rw [if_neg hl, if_neg (by omega)]
      case measure => simp [intOf]; omega
    have hkn : k = n := by omega
    subst hkn
    have hown0 := hown.congr (g := rk P (-1) 0) (fun j hj => by simp [rk, hj])
    clear hown
    go_wp2
    go_loopw [25] (fun i wq => ∃ m : Nat, m ≤ k ∧ i = .int .i64 m ∧ eachB k P m = true ∧ IHas wq w.heap.size k (rk P (-1) m) ∧ Below w.heap.size w wq) (fun i _ => k - (intOf i).toNat)
    case atStart => exact ⟨0, Nat.zero_le _, rfl, rfl, hown0, hbel⟩
    case round =>
      clear hown0 hbel
      obtain ⟨m, hm, rfl, hea, hown, hbel⟩ := hrel
      have HE : Hid (eachB k P m = true) := hea
      clear hea
      by_cases hlt : m < k
      rotate_left
      · have hmk : m = k := by omega
        subst hmk
        have HL : Hid (lenR m P = m) := by
          show lenR m P = m
          by_cases h0 : m = 0
          · subst h0; simp [lenR]
          · have h1 : 1 ≤ m := by omega
            have h24 : m ≤ 24 := by omega
            simp [lenR, okR, HE.out, h1, h24]
        go_wp2
        go_ret
        exact ans_of HL.out ⟨_, _, rfl, fun _ => ⟨_, rfl, Nat.le_refl _, hown⟩, hbel⟩
      obtain ⟨b, o, hao, c0⟩ := (hr.below hbel (Nat.le_refl _)) m hlt
      subst hao
      have hm0 : (0 : Int) ≤ (m : Int) := by omega
      have hmk : (m : Int) < (k : Int) := by omega
      rcases Bool.eq_false_or_eq_true (inB (P m) 0 ((k : Int) - 1)) with hi | hi
      rotate_left
      · have HL : Hid (lenR k P = 0) := by
          show lenR k P = 0
          have : eachB k P k = false := eachB_no (k := m) (by simp [eachB, hi]) hlt
          simp [lenR, okR, this]
        go_wp2_with (go_at_call 58; refine (placeOk_any _ _ _).mono ?_; rintro e w1 ⟨rfl, rfl⟩)
        go_ret
        exact ans_of HL.out ⟨_, _, rfl, fun h => by omega, hbel.alloc hbel.size _⟩
      have hq0 : 0 ≤ P m ∧ P m ≤ (k : Int) - 1 := by simpa [inB] using hi
      obtain ⟨q, hq⟩ : ∃ q : Nat, P m = (q : Int) := ⟨(P m).toNat, by omega⟩
      have hS : Hid (∀ j, rk P (-1) (m + 1) j = if j = q then (m : Int) else rk P (-1) m j) := rk_at hq
      have hE : Hid (eachB k P (m + 1) = !sn P m q) := eachB_at HE.out hq hi
      rw [hq] at c0 hi hq0
      clear hq
      have hqn : q < k := by omega
      have d0 := hown.cell hqn
      have z0 := hown.frozen q
      have R := hown.set q (m : Int)
      have S := hbel.setCell (p := ⟨w.heap.size, q, none⟩) (Nat.le_refl _) (.int .i64 (m : Int))
      have hqn' : (q : Int) < (k : Int) := by omega
      have hrs := rk_sn P m q
      rcases Bool.eq_false_or_eq_true (sn P m q) with hs | hs
      · have hge : 0 ≤ rk P (-1) m q := hrs.1 hs
        clear hrs
        have HL : Hid (lenR k P = 0) := by
          show lenR k P = 0
          have : eachB k P k = false := eachB_no (k := m) (by rw [hE.out, hs]; rfl) hlt
          simp [lenR, okR, this]
        go_wp2_with (go_at_call 58; refine (placeOk_any _ _ _).mono ?_; rintro e w1 ⟨rfl, rfl⟩)
        go_ret
        exact ans_of HL.out ⟨_, _, rfl, fun h => by omega, hbel.alloc hbel.size _⟩
      · have hge : ¬ 0 ≤ rk P (-1) m q := fun h => by rw [hrs.2 h] at hs; cases hs
        clear hrs hown
        go_wp2_with (go_at_call 58; refine (placeOk_any _ _ _).mono ?_; rintro e w1 ⟨rfl, rfl⟩)
        go_roundw
        case rel => exact ⟨m + 1, by omega, by go_num, by rw [hE.out, hs]; rfl, R.congr (fun j _ => (hS.out j).symm), S⟩
        case measure => simp [intOf]; omega

end Go.Proofs.Ytaddhiojahmbpaa
