/-
  markText, the laws' own: the text of a number.
-/
import Derived.Test.YtcmeppjfjledfakDoorBase
import Derived.Laws.BytesArg
set_option linter.unusedVariables false
set_option linter.unusedSimpArgs false
namespace Go.Proofs.YtcmeppjfjledfakDoor
open Go.RowKit
attribute [local go_sem ↓] Go.wp_at_zero Go.wp_at_succ

/-- The digits of k ahead of out. -/
def mdg (k : Nat) (out : ByteArray) : ByteArray := if h : k = 0 then out else mdg (k / 10) ({ data := #[UInt8.ofNat (48 + k % 10)] } ++ out)
termination_by k
decreasing_by omega
theorem mdg_zero (out : ByteArray) : mdg 0 out = out := by unfold mdg; rfl
theorem mdg_pos {k : Nat} (h : 0 < k) (out : ByteArray) : mdg k out = mdg (k / 10) ({ data := #[UInt8.ofNat (48 + k % 10)] } ++ out) := by
  rw [mdg]
  rw [dif_neg (by omega)]
def mtx (k : Nat) : ByteArray := { data := #[109] } ++ mdg k ByteArray.empty

set_option maxRecDepth 100000 in
set_option maxHeartbeats 1000000 in
theorem markText_any (k : Nat) (h0 : 0 < k) (hk : k ≤ 1000000000) (w : World) :
    Calls Tryd.prog 20 #[.int .i64 k] w fun e w' => e = .returned (.string (mtx k)) ∧ Below w.heap.size w w' := by
  have h1 : ¬ (k : Int) ≤ 0 := by omega
  unfold mtx
  generalize hM : mdg k ByteArray.empty = M
  go_enter Tryd.func20, Tryd.ntmps20
  go_wp2
  go_loopw [0, 3] (fun q s wr => ∃ (r : Nat) (o : ByteArray), q = .int .i64 r ∧ s = .string o ∧ mdg r o = M ∧ o.size + r ≤ 1000000000 ∧ Below w.heap.size w wr) (fun q _ _ => (intOf q).toNat)
  case atStart => exact ⟨k, ByteArray.empty, rfl, rfl, hM, by simpa using hk, Below.refl _ _⟩
  case round =>
    obtain ⟨r, o, rfl, rfl, hm, hr, hbel⟩ := hrel
    by_cases hz : 0 < r
    rotate_left
    · obtain rfl : r = 0 := by omega
      rw [mdg_zero] at hm
      subst hm
      have hs1 : (o.size : Int) ≤ 1000000000 := by omega
      have hs2 : ¬ (9223372036854775807 : Int) < 1 + (o.size : Int) := by omega
      go_wp2
      go_ret
      exact ⟨rfl, hbel⟩
    have hz' : (0 : Int) < (r : Int) := by omega
    rw [mdg_pos hz] at hm
    have q1 : (r : Int).tmod 10 = ((r % 10 : Nat) : Int) := by rw [Int.tmod_eq_emod_of_nonneg (by omega)]; omega
    have q2 : (r : Int).tdiv 10 = ((r / 10 : Nat) : Int) := by rw [Int.tdiv_eq_ediv_of_nonneg (by omega)]; omega
    have q3 : IntKind.i64.wrap (48 + ((r % 10 : Nat) : Int)) = 48 + ((r % 10 : Nat) : Int) := by rw [IntKind.wrap_i64]; omega
    have q4 : IntKind.u8.wrap (48 + ((r % 10 : Nat) : Int)) = 48 + ((r % 10 : Nat) : Int) := by simp [IntKind.wrap, IntKind.signed, IntKind.bits]; omega
    have q5 : (48 + ((r % 10 : Nat) : Int)).toNat = 48 + r % 10 := by omega
    have hcv := run_convert_bytes_arg (P := Tryd.prog) (wr.alloc (.cells #[.int .u8 (48 + (r : Int) % 10)] 5)) 61 5 Tryd.underlying61 Tryd.underlying5 wr.heap.size 0 1 1 [48 + (r : Int) % 10] rfl (fun i hi => by
      obtain rfl : i = 0 := by omega
      simp [go_sem]) 9 Tryd.underlying9
    have hst : strOfNums [48 + (r : Int) % 10] = { data := #[UInt8.ofNat (48 + r % 10)] } := by
      have : (48 + (r : Int) % 10).toNat = 48 + r % 10 := by omega
      simp [strOfNums, this]
    rw [hst] at hcv
    have hs2 : ¬ (9223372036854775807 : Int) < 1 + (o.size : Int) := by omega
    have hbA : ∀ x, Below w.heap.size w (wr.alloc x) := fun x => hbel.alloc hbel.size x
    go_wp2
    go_roundw
    case rel =>
      refine ⟨r / 10, { data := #[UInt8.ofNat (48 + r % 10)] } ++ o, by simp, ?_, hm, ?_, hbA _⟩
      · first | rfl | trivial | simp
      · rw [ByteArray.size_append, show ({ data := #[UInt8.ofNat (48 + r % 10)] } : ByteArray).size = 1 from rfl]
        omega
    case measure => simp [intOf]; omega

end Go.Proofs.YtcmeppjfjledfakDoor
