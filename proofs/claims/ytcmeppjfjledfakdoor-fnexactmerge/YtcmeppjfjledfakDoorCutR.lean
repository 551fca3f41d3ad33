/-
  The first rune of a text and what is behind it; whether a rune is a digit.
-/
import Derived.Test.YtcmeppjfjledfakDoorTxtP
import Derived.Test.YtcmeppjfjledfakDoorBase
import Derived.Laws.RangeAny
set_option linter.unusedVariables false
set_option linter.unusedSimpArgs false
namespace Go.Proofs.YtcmeppjfjledfakDoor
open Go.RowKit
attribute [local go_sem ↓] Go.wp_at_zero Go.wp_at_succ

/-- What a text is cut into: nothing; a sign of one byte; another one, which is none of those that are asked for. -/
def Cut (l : List UInt8) (r : Int) (l' : List UInt8) : Prop :=
  match l with
  | [] => r = -1 ∧ l' = []
  | c :: t => l'.length ≤ t.length ∧ ((c.toNat < 128 ∧ r = (c.toNat : Int) ∧ l' = t) ∨ (128 ≤ c.toNat ∧ 128 ≤ r ∧ r ≤ 2147483647))
theorem Cut.bd {l l' : List UInt8} {r : Int} (h : Cut l r l') : -1 ≤ r ∧ r ≤ 2147483647 := by
  cases l with
  | nil => simp [Cut] at h; omega
  | cons c t =>
    obtain ⟨_, h | h⟩ := h
    · omega
    · omega
theorem Cut.len {l l' : List UInt8} {r : Int} (h : Cut l r l') : l'.length ≤ l.length ∧ (0 ≤ r → l'.length < l.length) := by
  cases l with
  | nil => simp [Cut] at h; simp [h]
  | cons c t =>
    have := h.1
    simp; omega
theorem width_pos (s : ByteArray) (pos : Nat) (h : pos < s.size) : 1 ≤ (Utf8.decode s pos).2 := by
  by_cases ha : (s[pos]'h).toNat < 128
  · rw [decode_ascii s pos h ha]
    exact Nat.le_refl _
  · exact (decode_high s pos h (by omega)).2
theorem iter_below (w : World) (s : ByteArray) (pos : Nat) : Below w.heap.size w (w.iter s pos) := (Below.refl _ _).alloc (Nat.le_refl _) _
theorem below_dn {B : Nat} {a w : World} (h : Below B a w) (n : Nat) : Below B a (w.drewN n) := ⟨h.os, h.tape, h.output, h.size, h.block⟩
theorem list_of (s : ByteArray) (h : 0 < s.size) : s.data.toList = s[0] :: s.data.toList.tail := by
  have h' : 0 < s.data.toList.length := by simpa using h
  have e : s[0] = s.data.toList[0] := by simp; rfl
  rw [e]
  exact (fun (l : List UInt8) (h : 0 < l.length) => show l = l[0] :: l.tail from by
    cases l with
    | nil => simp at h
    | cons c t => simp) s.data.toList h'
theorem cut_of (s : ByteArray) (h : 0 < s.size) (l' : List UInt8) (h1 : l' = s.data.toList.drop (Utf8.decode s 0).2) : Cut s.data.toList ((Utf8.decode s 0).1 : Int) l' := by
  have hw := width_pos s 0 h
  rw [list_of s h] at h1 ⊢
  have hlen : s.data.toList.tail.length = s.size - 1 := by simp
  by_cases ha : (s[0]'h).toNat < 128
  · rw [decode_ascii s 0 h ha] at h1 ⊢
    simp at h1
    subst h1
    exact ⟨Nat.le_refl _, .inl ⟨ha, rfl, rfl⟩⟩
  · have hd := decode_high s 0 h (by omega)
    have hle := decode_le s 0
    refine ⟨?_, .inr ⟨by omega, by omega, by omega⟩⟩
    rw [h1, List.length_drop]
    simp only [List.length_cons]
    omega
theorem drop_extract (s : ByteArray) (k : Nat) : (s.extract k s.size).data.toList = s.data.toList.drop k := by
  simp [ByteArray.data_extract]
  exact List.take_of_length_le (by simp)

set_option maxHeartbeats 1000000 in
set_option maxRecDepth 20000 in
theorem cutRune_any (s : ByteArray) (hs : s.size ≤ 1048576) (w : World) :
    Calls Tryd.prog 47 #[.string s] w fun e w' => ∃ (r : Int) (t : ByteArray), e = .returned (.tuple #[.int .i32 r, .string t]) ∧ Cut s.data.toList r t.data.toList ∧ Below w.heap.size w w' := by
  go_enter Tryd.func47, Tryd.ntmps47
  go_wp2
  go_loopw [4] (fun f w' => ∃ pos : Nat, w' = w.iter s pos ∧ ((pos = 0 ∧ f = .int .i32 (-1)) ∨ (0 < s.size ∧ pos = (Utf8.decode s 0).2 ∧ f = .int .i32 (Utf8.decode s 0).1))) (fun _ w' => s.size - w'.iterPos w.heap.size)
  case atStart => exact ⟨0, rfl, .inl ⟨rfl, rfl⟩⟩
  case round =>
    obtain ⟨pos, rfl, h⟩ := hrel
    by_cases hp : pos < s.size
    · have hnx : ∀ ty, (Instr.next (.pointer (some ⟨w.heap.size, 0, none⟩)) true ty).run Tryd.prog (w.iter s pos) = _ := fun ty => run_next_any w s pos ty hp
      have hwd := width_pos s pos hp
      rcases h with ⟨rfl, rfl⟩ | ⟨h0, rfl, rfl⟩
      · go_wp2
        go_roundw
        case rel => exact ⟨(Utf8.decode s 0).2, by simp, .inr ⟨hp, rfl, rfl⟩⟩
        case measure => simp; omega
      · have hw0 := width_pos s 0 h0
        have hpos : (0 : Int) < ((Utf8.decode s 0).2 : Int) := by omega
        go_wp2
        go_quiet (fail)
        go_wp2
        go_ret2
        exact ⟨_, _, rfl, cut_of s h0 _ (drop_extract s _), below_dn (iter_below _ _ _) _⟩
    · have hnx : ∀ ty, (Instr.next (.pointer (some ⟨w.heap.size, 0, none⟩)) true ty).run Tryd.prog (w.iter s pos) = _ := fun ty => run_next_end w s pos ty hp
      rcases h with ⟨rfl, rfl⟩ | ⟨h0, rfl, rfl⟩
      · have hsz : s.size = 0 := by omega
        have hl : s.data.toList = [] := List.eq_nil_of_length_eq_zero (by simpa using hsz)
        go_wp2
        go_ret2
        exact ⟨_, _, rfl, by rw [hl]; exact ⟨rfl, rfl⟩, iter_below _ _ _⟩
      · go_wp2
        go_ret2
        exact ⟨_, _, rfl, cut_of s h0 _ (by rw [List.drop_eq_nil_of_le (by simp; omega)]), iter_below _ _ _⟩

def digB (r : Int) : Bool := decide (48 ≤ r) && decide (r ≤ 57)
theorem isDigit_any (r : Int) (w : World) :
    Calls Tryd.prog 48 #[.int .i32 r] w fun e w' => e = .returned (.bool (digB r)) ∧ w' = w := by
  by_cases h1 : 48 ≤ r <;> by_cases h2 : r ≤ 57 <;>
  · go_enter Tryd.func48, Tryd.ntmps48
    go_wp2
    go_ret
    exact ⟨by simp [digB, h1, h2], rfl⟩

end Go.Proofs.YtcmeppjfjledfakDoor
