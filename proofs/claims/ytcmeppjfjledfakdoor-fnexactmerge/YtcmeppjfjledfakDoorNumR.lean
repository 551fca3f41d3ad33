/-
  The document's numbers of a text: one number; all of them, in new memory.
-/
import Derived.Test.YtcmeppjfjledfakDoorTxtP
import Derived.Test.YtcmeppjfjledfakDoorGrow
set_option linter.unusedVariables false
set_option linter.unusedSimpArgs false
namespace Go.Proofs.YtcmeppjfjledfakDoor
open Go.RowKit
attribute [local go_sem ↓] Go.wp_at_zero Go.wp_at_succ

def ret2 (v : Option Int) : Value := .tuple #[.int .i64 (v.getD 0), .bool v.isSome]
theorem toL (s : ByteArray) (k : Nat) (h : k < s.size) : s.data.toList[k]? = some s[k] := by
  rw [List.getElem?_eq_getElem (by simpa using h)]
  rfl
theorem take_nx {s : ByteArray} {d : List UInt8} {o j : Nat} (HT : Hid (∀ j (h : o + j < s.size), d[j]? = some s[o + j])) (h : o + j < s.size) : d.take (j + 1) = d.take j ++ [s[o + j]] := by
  rw [List.take_add_one, HT.out j h]
  rfl
theorem take_nx0 {s : ByteArray} {d : List UInt8} {j : Nat} (HT : Hid (∀ j (h : j < s.size), d[j]? = some s[j])) (h : j < s.size) : d.take (j + 1) = d.take j ++ [s[j]] := by
  rw [List.take_add_one, HT.out j h]
  rfl
theorem drop_at (s : ByteArray) (o j : Nat) (h : o + j < s.size) : (s.data.toList.drop o)[j]? = some s[o + j] := by
  rw [List.getElem?_drop]
  exact toL s (o + j) h
theorem take_next (s : ByteArray) (o j : Nat) (h : o + j < s.size) : (s.data.toList.drop o).take (j + 1) = (s.data.toList.drop o).take j ++ [s[o + j]] := by
  rw [List.take_add_one, drop_at s o j h]
  rfl
theorem isD_iff {c : UInt8} : isD c = true ↔ 48 ≤ (c.toNat : Int) ∧ (c.toNat : Int) ≤ 57 := by simp [isD]; omega
theorem all_no {l : List UInt8} {j : Nat} {c : UInt8} (h : l[j]? = some c) (hc : isD c = false) : l.all isD = false := by
  rw [List.all_eq_false]
  exact ⟨c, List.mem_of_getElem? h, by simp [hc]⟩
theorem pow10_le {j : Nat} (h : j ≤ 9) : (10 : Int) ^ j ≤ 1000000000 := by
  have : j = 0 ∨ j = 1 ∨ j = 2 ∨ j = 3 ∨ j = 4 ∨ j = 5 ∨ j = 6 ∨ j = 7 ∨ j = 8 ∨ j = 9 := by omega
  rcases this with rfl | rfl | rfl | rfl | rfl | rfl | rfl | rfl | rfl | rfl <;> decide
theorem val_lt : ∀ (l : List UInt8) (n : Int), l.all isD = true → 0 ≤ n → l.foldl (fun n c => n * 10 + dg c) n < (n + 1) * (10 : Int) ^ l.length
  | [], n, _, _ => by simp; omega
  | c :: t, n, h, h0 => by
    simp at h
    have hd := dg_bd h.1
    have h2 := val_lt t (n * 10 + dg c) (by simpa using h.2) (by omega)
    simp only [List.foldl_cons, List.length_cons]
    have hp : (0 : Int) ≤ (10 : Int) ^ t.length := Int.pow_nonneg (by decide)
    have e2 : (n + 1) * (10 : Int) ^ (t.length + 1) = ((n + 1) * 10) * (10 : Int) ^ t.length := by rw [Int.pow_succ, Int.mul_comm ((10 : Int) ^ t.length) 10, ← Int.mul_assoc]
    have m2 : (n * 10 + dg c + 1) * (10 : Int) ^ t.length ≤ ((n + 1) * 10) * (10 : Int) ^ t.length := Int.mul_le_mul_of_nonneg_right (by omega) hp
    rw [e2]
    omega
theorem val_bd {l : List UInt8} (h : l.all isD = true) (hl : l.length ≤ 9) : 0 ≤ val l ∧ val l < 1000000000 := by
  have h1 := val_lt l 0 h (Int.le_refl _)
  have h2 := pow10_le hl
  have h0 := val_nonneg h
  unfold val at h0 ⊢
  omega
theorem ret_tup {a b : Option Int} (h : a = b) : Ending.returned (ret2 a) = .returned (ret2 b) := by rw [h]
set_option maxHeartbeats 2000000 in
set_option maxRecDepth 20000 in
theorem l1Number_neg (s : ByteArray) (hs : s.size ≤ 1048576) (hne : 0 < s.size) (h45 : s[0] = 45) (d : List UInt8) (HL : Hid (d.length = s.size - 1)) (HT : Hid (∀ j (h : 1 + j < s.size), d[j]? = some s[1 + j])) (w : World) :
    Calls Tryd.prog 45 #[.string s] w fun e w' => e = .returned (ret2 (numD true d)) ∧ w' = w := by
  have hse : s.toList.isEmpty = false := by
    rw [ByteArray.toList_eq, List.isEmpty_eq_false_iff]
    intro e
    have h0 : s.data.toList.length = 0 := by rw [e]; rfl
    have h9 : s.data.toList.length = s.size := by simp
    omega
  have hc0 : (s[0].toNat : Int) = 45 := by
    rw [h45]; rfl
  by_cases hsh : s.size - 1 < 1 ∨ 9 < s.size - 1
  · have hn : numD true d = none := by
      unfold numD
      rw [if_pos (by rw [HL.out]; omega)]
    rw [hn]
    rcases hsh with hsh | hsh
    · have h1 : (s.size : Int) - 1 < 1 := by omega
      go_enter Tryd.func45, Tryd.ntmps45
      go_wp2
      go_ret2
      exact ⟨rfl, rfl⟩
    · have h1 : ¬ (s.size : Int) - 1 < 1 := by omega
      have h2 : 9 < (s.size : Int) - 1 := by omega
      go_enter Tryd.func45, Tryd.ntmps45
      go_wp2
      go_ret2
      exact ⟨rfl, rfl⟩
  have h1 : ¬ (s.size : Int) - 1 < 1 := by omega
  have h2 : ¬ 9 < (s.size : Int) - 1 := by omega
  go_enter Tryd.func45, Tryd.ntmps45
  go_wp2
  go_loop [6, 7] (fun n k => ∃ j : Nat, 1 + j ≤ s.size ∧ k = .int .i64 (((1 + j : Nat)) : Int) ∧ (d.take j).all isD = true ∧ n = .int .i64 (val (d.take j))) (fun _ k => s.size - (intOf k).toNat)
  case atStart => exact ⟨0, by omega, rfl, by simp, by simp [val]⟩
  case round =>
    obtain ⟨j, hj, rfl, hall, rfl⟩ := hrel
    obtain ⟨v0, v1⟩ := val_bd hall (by rw [List.length_take, HL.out]; omega)
    have HA : Hid ((d.take j).all isD = true) := hall
    clear hall
    by_cases hlt : 1 + j < s.size
    · have hc : s[1 + j].toNat < 256 := s[1 + j].toNat_lt
      have hlt' : ((1 + j : Nat) : Int) < (s.size : Int) := by omega
      have hk0 : (0 : Int) ≤ ((1 + j : Nat) : Int) := by omega
      cases hd : isD s[1 + j] with
      | true =>
        obtain ⟨d1, d2⟩ := isD_iff.1 hd
        have e1 := take_nx HT hlt
        have HV : Hid (val (d.take (j + 1)) = val (d.take j) * 10 + ((s[1 + j].toNat : Int) - 48)) := by
          show _ = _
          rw [e1, val_snoc]
          rfl
        have HB : Hid ((d.take (j + 1)).all isD = true) := by
          show _ = _
          rw [e1]
          exact all_snoc.2 ⟨HA.out, hd⟩
        clear e1
        go_wp2
        go_round
        case rel => exact ⟨j + 1, by omega, by go_num, HB.out, by rw [HV.out]⟩
        case measure => simp [intOf]; omega
      | false =>
        have hn : numD true d = none := by
          unfold numD
          split
          · rfl
          rw [if_pos (all_no (HT.out j hlt) hd)]
        have HN : Hid (numD true d = none) := hn
        clear hn
        by_cases c1 : (s[1 + j].toNat : Int) < 48
        · go_wp2
          go_ret2
          exact ⟨by rw [HN.out]; rfl, rfl⟩
        · have c2 : 57 < (s[1 + j].toNat : Int) := by
            by_cases h : (s[1 + j].toNat : Int) ≤ 57
            · rw [isD_iff.2 ⟨by omega, h⟩] at hd
              cases hd
            · omega
          go_wp2
          go_ret2
          exact ⟨by rw [HN.out]; rfl, rfl⟩
    · have ht : d.take j = d := List.take_of_length_le (by rw [HL.out]; omega)
      have hh : d.head? = some s[1] := by
        rw [List.head?_eq_getElem?]
        exact HT.out 0 (by omega)
      have hall := HA.out
      rw [ht] at v0 v1 hall ⊢
      have HNN : Hid (numD true d = if s[1] = 48 ∧ (true = true ∨ 1 < s.size - 1) then none else some (if true = true then - val d else val d)) := by
        show _ = _
        unfold numD
        rw [if_neg (by rw [HL.out]; omega), if_neg (by rw [hall]; simp), hh, HL.out]
        simp
      have hlt' : ¬ ((1 + j : Nat) : Int) < (s.size : Int) := by omega
      have hc : s[1].toNat < 256 := s[1].toNat_lt
      clear ht HA hh hall
      by_cases h48 : s[1] = 48
      · have hz : (s[1].toNat : Int) = 48 := by rw [h48]; rfl
        go_wp2
        go_ret2
        exact ⟨by rw [HNN.out, if_pos (by simp [h48])]; rfl, rfl⟩
      · have hz : ¬ (s[1].toNat : Int) = 48 := fun e => h48 (UInt8.toNat_inj.1 (by simp; omega))
        have hz' : ((s[1].toNat : Int) == 48) = false := by simpa using hz
        go_wp2
        go_ret2
        exact ⟨by rw [HNN.out, if_neg (fun e => h48 e.1)]; rfl, rfl⟩
set_option maxHeartbeats 2000000 in
set_option maxRecDepth 20000 in
theorem l1Number_pos (s : ByteArray) (hs : s.size ≤ 1048576) (hne : 0 < s.size) (h45 : s[0] ≠ 45) (d : List UInt8) (HL : Hid (d.length = s.size - 0)) (HT : Hid (∀ j (h : j < s.size), d[j]? = some s[j])) (w : World) :
    Calls Tryd.prog 45 #[.string s] w fun e w' => e = .returned (ret2 (numD false d)) ∧ w' = w := by
  have hse : s.toList.isEmpty = false := by
    rw [ByteArray.toList_eq, List.isEmpty_eq_false_iff]
    intro e
    have h0 : s.data.toList.length = 0 := by rw [e]; rfl
    have h9 : s.data.toList.length = s.size := by simp
    omega
  have hc0 : (s[0].toNat : Int) ≠ 45 := by
    intro e; exact h45 (UInt8.toNat_inj.1 (by simp; omega))
  have hc0b : ((s[0].toNat : Int) == 45) = false := by simpa using hc0
  by_cases hsh : s.size - 0 < 1 ∨ 9 < s.size - 0
  · have hn : numD false d = none := by
      unfold numD
      rw [if_pos (by rw [HL.out]; omega)]
    rw [hn]
    rcases hsh with hsh | hsh
    · have h1 : (s.size : Int) < 1 := by omega
      go_enter Tryd.func45, Tryd.ntmps45
      go_wp2
      go_ret2
      exact ⟨rfl, rfl⟩
    · have h1 : ¬ (s.size : Int) < 1 := by omega
      have h2 : 9 < (s.size : Int) := by omega
      go_enter Tryd.func45, Tryd.ntmps45
      go_wp2
      go_ret2
      exact ⟨rfl, rfl⟩
  have h1 : ¬ (s.size : Int) < 1 := by omega
  have h2 : ¬ 9 < (s.size : Int) := by omega
  go_enter Tryd.func45, Tryd.ntmps45
  go_wp2
  go_loop [6, 7] (fun n k => ∃ j : Nat, j ≤ s.size ∧ k = .int .i64 (j : Int) ∧ (d.take j).all isD = true ∧ n = .int .i64 (val (d.take j))) (fun _ k => s.size - (intOf k).toNat)
  case atStart => exact ⟨0, by omega, rfl, by simp, by simp [val]⟩
  case round =>
    obtain ⟨j, hj, rfl, hall, rfl⟩ := hrel
    obtain ⟨v0, v1⟩ := val_bd hall (by rw [List.length_take, HL.out]; omega)
    have HA : Hid ((d.take j).all isD = true) := hall
    clear hall
    by_cases hlt : j < s.size
    · have hc : s[j].toNat < 256 := s[j].toNat_lt
      have hlt' : ((j : Nat) : Int) < (s.size : Int) := by omega
      have hk0 : (0 : Int) ≤ ((j : Nat) : Int) := by omega
      cases hd : isD s[j] with
      | true =>
        obtain ⟨d1, d2⟩ := isD_iff.1 hd
        have e1 := take_nx0 HT hlt
        have HV : Hid (val (d.take (j + 1)) = val (d.take j) * 10 + ((s[j].toNat : Int) - 48)) := by
          show _ = _
          rw [e1, val_snoc]
          rfl
        have HB : Hid ((d.take (j + 1)).all isD = true) := by
          show _ = _
          rw [e1]
          exact all_snoc.2 ⟨HA.out, hd⟩
        clear e1
        go_wp2
        go_round
        case rel => exact ⟨j + 1, by omega, by go_num, HB.out, by rw [HV.out]⟩
        case measure => simp [intOf]; omega
      | false =>
        have hn : numD false d = none := by
          unfold numD
          split
          · rfl
          rw [if_pos (all_no (HT.out j hlt) hd)]
        have HN : Hid (numD false d = none) := hn
        clear hn
        by_cases c1 : (s[j].toNat : Int) < 48
        · go_wp2
          go_ret2
          exact ⟨by rw [HN.out]; rfl, rfl⟩
        · have c2 : 57 < (s[j].toNat : Int) := by
            by_cases h : (s[j].toNat : Int) ≤ 57
            · rw [isD_iff.2 ⟨by omega, h⟩] at hd
              cases hd
            · omega
          go_wp2
          go_ret2
          exact ⟨by rw [HN.out]; rfl, rfl⟩
    · have ht : d.take j = d := List.take_of_length_le (by rw [HL.out]; omega)
      have hh : d.head? = some s[0] := by
        rw [List.head?_eq_getElem?]
        exact HT.out 0 (by omega)
      have hall := HA.out
      rw [ht] at v0 v1 hall ⊢
      have HNN : Hid (numD false d = if s[0] = 48 ∧ (false = true ∨ 1 < s.size - 0) then none else some (if false = true then - val d else val d)) := by
        show _ = _
        unfold numD
        rw [if_neg (by rw [HL.out]; omega), if_neg (by rw [hall]; simp), hh, HL.out]
        simp
      have hlt' : ¬ ((j : Nat) : Int) < (s.size : Int) := by omega
      have hc : s[0].toNat < 256 := s[0].toNat_lt
      clear ht HA hh hall
      by_cases h48 : s[0] = 48
      · have hz : (s[0].toNat : Int) = 48 := by rw [h48]; rfl
        by_cases hl1 : 1 < s.size
        · have hl1' : (1 : Int) < (s.size : Int) := by omega
          go_wp2
          go_ret2
          exact ⟨by rw [HNN.out, if_pos ⟨h48, .inr (by omega)⟩]; rfl, rfl⟩
        · have hl1' : ¬ (1 : Int) < (s.size : Int) := by omega
          go_wp2
          go_ret2
          exact ⟨by rw [HNN.out, if_neg (by rintro ⟨_, h | h⟩; cases h; omega)]; rfl, rfl⟩
      · have hz : ¬ (s[0].toNat : Int) = 48 := fun e => h48 (UInt8.toNat_inj.1 (by simp; omega))
        have hz' : ((s[0].toNat : Int) == 48) = false := by simpa using hz
        go_wp2
        go_ret2
        exact ⟨by rw [HNN.out, if_neg (fun e => h48 e.1)]; rfl, rfl⟩
theorem head0 (s : ByteArray) (h : 0 < s.size) : s.data.toList.head? = some s[0] := by
  rw [List.head?_eq_getElem?]
  exact toL s 0 h
theorem l1Number_any (s : ByteArray) (hs : s.size ≤ 1048576) (w : World) :
    Calls Tryd.prog 45 #[.string s] w fun e w' => e = .returned (ret2 (num1 s.data.toList)) ∧ w' = w := by
  by_cases hne : 0 < s.size
  · by_cases h45 : s[0] = 45
    · have e : num1 s.data.toList = numD true (s.data.toList.drop 1) := by
        unfold num1
        rw [if_pos (by rw [head0 s hne, h45]), ← List.drop_one]
      rw [e]
      exact l1Number_neg s hs hne h45 _ (by show _ = _; simp) (fun j h => drop_at s 1 j h) w
    · have e : num1 s.data.toList = numD false (s.data.toList.drop 0) := by
        unfold num1
        rw [if_neg (by rw [head0 s hne]; simpa using h45), List.drop_zero]
      rw [e]
      exact l1Number_pos s hs hne h45 _ (by show _ = _; simp) (fun j h => by rw [List.drop_zero]; exact toL s j h) w
  · have hz : s.size = 0 := by omega
    have hl : s.data.toList = [] := List.eq_nil_of_length_eq_zero (by simpa using hz)
    have hse : s = (⟨#[]⟩ : ByteArray) := by
      apply ByteArray.ext
      apply Array.ext'
      simpa using hl
    rw [hl, num1_nil]
    subst hse
    go_enter Tryd.func45, Tryd.ntmps45
    go_wp2
    go_ret2
    exact ⟨rfl, rfl⟩

end Go.Proofs.YtcmeppjfjledfakDoor
