/-
  Sum, the document's and the program's: both go through the bytes of a text in the same way.
-/
import Derived.Test.YtmnohgcjdhokdajBase
set_option linter.unusedVariables false
set_option linter.unusedSimpArgs false
namespace Go.Proofs.Ytmnohgcjdhokdaj
open Go.RowKit
attribute [local go_sem ↓] Go.wp_at_zero Go.wp_at_succ

def stepS (h : Int) (c : UInt8) : Int := (h * 131 + (c.toNat : Int)) % 1000003
def sumT (l : List UInt8) : Int := l.foldl stepS 5
theorem fold_in : ∀ (l : List UInt8) (h : Int), 0 ≤ h ∧ h < 1000003 → 0 ≤ l.foldl stepS h ∧ l.foldl stepS h < 1000003
  | [], h, hh => hh
  | c :: t, h, hh => by
    simp only [List.foldl_cons]
    exact fold_in t _ (by unfold stepS; omega)
theorem sumT_bd (l : List UInt8) : 0 ≤ sumT l ∧ sumT l < 1000003 := fold_in l 5 (by omega)
theorem take_snoc (s : ByteArray) (k : Nat) (h : k < s.size) : s.data.toList.take (k + 1) = s.data.toList.take k ++ [s[k]] := by
  rw [List.take_succ_eq_append_getElem (by simpa using h)]; rfl
theorem sumT_snoc (l : List UInt8) (c : UInt8) : sumT (l ++ [c]) = (sumT l * 131 + (c.toNat : Int)) % 1000003 := by simp [sumT, List.foldl_append, stepS]
theorem take_all (s : ByteArray) {k : Nat} (h : s.size ≤ k) : s.data.toList.take k = s.data.toList := List.take_of_length_le (by simpa using h)
theorem ret_num {a b : Int} (h : a = b) : Ending.returned (.int .i64 a) = .returned (.int .i64 b) := by rw [h]

set_option maxHeartbeats 800000 in
theorem specSum_any (s : ByteArray) (hs : s.size ≤ 1048576) (w : World) :
    Calls Try.prog 10 #[.string s] w fun e w' => e = .returned (.int .i64 (sumT s.data.toList)) ∧ w' = w := by
  go_enter Try.func10, Try.ntmps10
  go_wp2
  go_loop [3, 4] (fun h i => ∃ k : Nat, k ≤ s.size ∧ i = .int .i64 k ∧ h = .int .i64 (sumT (s.data.toList.take k))) (fun _ i => s.size - (intOf i).toNat)
  case atStart => exact ⟨0, Nat.zero_le _, rfl, rfl⟩
  case round =>
    obtain ⟨k, hk, rfl, rfl⟩ := hrel
    obtain ⟨h0, h1⟩ := sumT_bd (s.data.toList.take k)
    by_cases hlt : k < s.size
    · have HS : Hid (sumT (s.data.toList.take (k + 1)) = (sumT (s.data.toList.take k) * 131 + (s[k].toNat : Int)) % 1000003) := by
        show _ = _
        rw [take_snoc s k hlt, sumT_snoc]
      have hc : s[k].toNat < 256 := s[k].toNat_lt
      go_wp2
      go_round
      case rel => exact ⟨k + 1, by omega, by go_num, by rw [HS.out]⟩
      case measure => simp [intOf]; omega
    · go_wp2
      go_ret
      exact ⟨ret_num (by rw [take_all s (by omega)]), rfl⟩
set_option maxHeartbeats 800000 in
theorem implSum_any (s : ByteArray) (hs : s.size ≤ 1048576) (w : World) :
    Calls Try.prog 11 #[.string s] w fun e w' => e = .returned (.int .i64 (sumT s.data.toList)) ∧ w' = w := by
  go_enter Try.func11, Try.ntmps11
  go_wp2
  go_loop [3, 7] (fun h i => ∃ k : Nat, k ≤ s.size ∧ i = .int .i64 k ∧ h = .int .i64 (sumT (s.data.toList.take k))) (fun _ i => s.size - (intOf i).toNat)
  case atStart => exact ⟨0, Nat.zero_le _, rfl, rfl⟩
  case round =>
    obtain ⟨k, hk, rfl, rfl⟩ := hrel
    obtain ⟨h0, h1⟩ := sumT_bd (s.data.toList.take k)
    by_cases hlt : k < s.size
    · have HS : Hid (sumT (s.data.toList.take (k + 1)) = (sumT (s.data.toList.take k) * 131 + (s[k].toNat : Int)) % 1000003) := by
        show _ = _
        rw [take_snoc s k hlt, sumT_snoc]
      have hc : s[k].toNat < 256 := s[k].toNat_lt
      go_wp2
      go_round
      case rel => exact ⟨k + 1, by omega, by go_num, by rw [HS.out]⟩
      case measure => simp [intOf]; omega
    · go_wp2
      go_ret
      exact ⟨ret_num (by rw [take_all s (by omega)]), rfl⟩

end Go.Proofs.Ytmnohgcjdhokdaj
