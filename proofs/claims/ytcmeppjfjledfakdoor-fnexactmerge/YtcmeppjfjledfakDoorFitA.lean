/-
  The program's termAt and faultOfTerm, by their contracts.
-/
import Derived.Test.YtcmeppjfjledfakDoorLogP
import Derived.Test.YtcmeppjfjledfakDoorLogU
set_option linter.unusedVariables false
set_option linter.unusedSimpArgs false
namespace Go.Proofs.YtcmeppjfjledfakDoor
open Go.RowKit
attribute [local go_sem ↓] Go.wp_at_zero Go.wp_at_succ

/-- Does entry number i (0: what is ahead of the first) have the Term t? -/
def fitB (n : Nat) (T : Nat → Int) (i t : Int) : Bool := decide (0 ≤ i ∧ i ≤ n ∧ lastT i.toNat T = t)
abbrev vE (a : Addr) : Value := .iface 125 (.pointer (some a))

theorem termAt_in (ao : Option Addr) (n cap : Nat) (T : Nat → Int) (X : Nat → ByteArray) (i : Int) (hn : n ≤ 9223372036854775807) (hc : n ≤ cap) (h0 : 0 ≤ i) (h1 : i ≤ n) (w : World) (hr : NRow w ao n T X) :
    Calls Tryd.prog 16 #[.slice ao n cap, .int .i64 i] w fun e w' => e = .returned (.tuple #[.int .i64 (lastT i.toNat T), .nilIface]) ∧ w' = w := by
  obtain ⟨k, rfl⟩ : ∃ k : Nat, i = k := ⟨i.toNat, by omega⟩
  simp only [Int.toNat_natCast]
  have hl : k ≤ n := by omega
  have hL := fun ao' cap' W h => implLastTerm_any ao' k cap' T X (by omega) W h
  have hrk := hr.less hl
  generalize lastT k T = q at hL ⊢
  have h2 : ¬ (k : Int) < 0 := by omega
  have h3 : ¬ (n : Int) < (k : Int) := by omega
  go_enter Tryd.func16, Tryd.ntmps16
  go_wp2_with fail
  refine (hL _ _ _ hrk).mono ?_
  rintro e w1 ⟨rfl, hq⟩
  have hq' := hq.symm
  subst hq'
  clear hq
  go_wp2
  exact bodyPost_ret (v := .tuple #[.int .i64 q, .nilIface]) (by simp [results, Tryd.results16, go_sem]) rfl ⟨rfl, rfl⟩

theorem termAt_out (ao : Option Addr) (n cap : Nat) (i : Int) (a : Addr) (hn : n ≤ 9223372036854775807) (h : i < 0 ∨ (n : Int) < i) (w : World) (hV : w.cell? ⟨0, 0, none⟩ = some (vE a)) :
    Calls Tryd.prog 16 #[.slice ao n cap, .int .i64 i] w fun e w' => e = .returned (.tuple #[.int .i64 0, mis i a]) ∧ Below w.heap.size w w' := by
  by_cases h1 : i < 0
  · go_enter Tryd.func16, Tryd.ntmps16
    go_wp2
    go_quiet (fail)
    go_wp2
    exact bodyPost_ret (v := .tuple #[.int .i64 0, mis i a]) (by simp [results, Tryd.results16, go_sem]) rfl ⟨rfl, below_drewN (Below.refl _ _) _⟩
  · have h2 : (n : Int) < i := by omega
    go_enter Tryd.func16, Tryd.ntmps16
    go_wp2
    go_quiet (fail)
    go_wp2
    exact bodyPost_ret (v := .tuple #[.int .i64 0, mis i a]) (by simp [results, Tryd.results16, go_sem]) rfl ⟨rfl, below_drewN (Below.refl _ _) _⟩

/-- What the program says of entry number i: nil where its Term is t, else an error of its own make at that number. -/
theorem faultOfTerm_any (ao : Option Addr) (n cap : Nat) (T : Nat → Int) (X : Nat → ByteArray) (i t : Int) (aE aO : Addr) (hn : n ≤ 9223372036854775807) (hc : n ≤ cap) (w : World) (hr : NRow w ao n T X)
    (hE : w.cell? ⟨0, 0, none⟩ = some (vE aE)) (hO : w.cell? ⟨3, 0, none⟩ = some (vE aO)) :
    Calls Tryd.prog 36 #[.slice ao n cap, .int .i64 i, .int .i64 t] w fun e w' => (fitB n T i t = true ∧ e = .returned .nilIface ∨ fitB n T i t = false ∧ ∃ a, e = .returned (mis i a)) ∧ Below w.heap.size w w' := by
  by_cases h : i < 0 ∨ (n : Int) < i
  · have hf : fitB n T i t = false := decide_eq_false (by omega)
    rw [hf]
    have hA := fun W h1 => termAt_out ao n cap i aE hn h W h1
    go_enter Tryd.func36, Tryd.ntmps36
    go_wp2_with fail
    refine (hA _ hE).mono ?_
    rintro e w1 ⟨rfl, hb1⟩
    go_wp2
    go_ret
    exact ⟨Or.inr ⟨trivial, _, rfl⟩, hb1⟩
  have hA := fun W h1 => termAt_in ao n cap T X i hn hc (by omega) (by omega) W h1
  by_cases ht : lastT i.toNat T = t
  · have hf : fitB n T i t = true := decide_eq_true ⟨by omega, by omega, ht⟩
    rw [hf]
    rw [ht] at hA
    go_enter Tryd.func36, Tryd.ntmps36
    go_wp2_with fail
    refine (hA _ hr).mono ?_
    rintro e w1 ⟨rfl, hq⟩
    have hq' := hq.symm
    subst hq'
    clear hq
    go_wp2
    go_ret
    exact ⟨Or.inl ⟨trivial, rfl⟩, Below.refl _ _⟩
  · have hf : fitB n T i t = false := decide_eq_false (by omega)
    rw [hf]
    generalize lastT i.toNat T = q at hA ht
    go_enter Tryd.func36, Tryd.ntmps36
    go_wp2_with fail
    refine (hA _ hr).mono ?_
    rintro e w1 ⟨rfl, hq⟩
    have hq' := hq.symm
    subst hq'
    clear hq
    go_wp2
    go_ret
    exact ⟨Or.inr ⟨trivial, _, rfl⟩, by first | exact Below.refl _ _ | exact below_drewN (Below.refl _ _) _⟩

end Go.Proofs.YtcmeppjfjledfakDoor
