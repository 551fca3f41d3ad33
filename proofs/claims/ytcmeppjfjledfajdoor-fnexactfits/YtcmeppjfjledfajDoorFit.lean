/-
  Fits, the document's and the program's, by their contracts; the program's termAt and faultOfTerm.
-/
import Derived.Test.YtcmeppjfjledfajDoorLogP
import Derived.Test.YtcmeppjfjledfajDoorLogU
set_option linter.unusedVariables false
set_option linter.unusedSimpArgs false
namespace Go.Proofs.YtcmeppjfjledfajDoor
open Go.RowKit
attribute [local go_sem ↓] Go.wp_at_zero Go.wp_at_succ

/-- Does entry number i (0: what is ahead of the first) have the Term t? -/
def fitB (n : Nat) (T : Nat → Int) (i t : Int) : Bool := decide (0 ≤ i ∧ i ≤ n ∧ lastT i.toNat T = t)
abbrev vE (a : Addr) : Value := .iface 147 (.pointer (some a))

theorem termAt_in (ao : Option Addr) (n cap : Nat) (T : Nat → Int) (X : Nat → ByteArray) (i : Int) (hn : n ≤ 9223372036854775807) (hc : n ≤ cap) (h0 : 0 ≤ i) (h1 : i ≤ n) (w : World) (hr : NRow w ao n T X) :
    Calls Tryd.prog 48 #[.slice ao n cap, .int .i64 i] w fun e w' => e = .returned (.tuple #[.int .i64 (lastT i.toNat T), .nilIface]) ∧ w' = w := by
  obtain ⟨k, rfl⟩ : ∃ k : Nat, i = k := ⟨i.toNat, by omega⟩
  simp only [Int.toNat_natCast]
  have hl : k ≤ n := by omega
  have hL := fun ao' cap' W h => implLastTerm_any ao' k cap' T X (by omega) W h
  have hrk := hr.less hl
  generalize lastT k T = q at hL ⊢
  have h2 : ¬ (k : Int) < 0 := by omega
  have h3 : ¬ (n : Int) < (k : Int) := by omega
  go_enter Tryd.func48, Tryd.ntmps48
  go_wp2_with fail
  refine (hL _ _ _ hrk).mono ?_
  rintro e w1 ⟨rfl, hq⟩
  have hq' := hq.symm
  subst hq'
  clear hq
  go_wp2
  exact bodyPost_ret (v := .tuple #[.int .i64 q, .nilIface]) (by simp [results, Tryd.results48, go_sem]) rfl ⟨rfl, rfl⟩

theorem termAt_out (ao : Option Addr) (n cap : Nat) (i : Int) (a : Addr) (hn : n ≤ 9223372036854775807) (h : i < 0 ∨ (n : Int) < i) (w : World) (hV : w.cell? ⟨2, 0, none⟩ = some (vE a)) :
    Calls Tryd.prog 48 #[.slice ao n cap, .int .i64 i] w fun e w' => e = .returned (.tuple #[.int .i64 0, mis i a]) ∧ Below w.heap.size w w' := by
  by_cases h1 : i < 0
  · go_enter Tryd.func48, Tryd.ntmps48
    go_wp2
    go_quiet (fail)
    go_wp2
    exact bodyPost_ret (v := .tuple #[.int .i64 0, mis i a]) (by simp [results, Tryd.results48, go_sem]) rfl ⟨rfl, below_drewN (Below.refl _ _) _⟩
  · have h2 : (n : Int) < i := by omega
    go_enter Tryd.func48, Tryd.ntmps48
    go_wp2
    go_quiet (fail)
    go_wp2
    exact bodyPost_ret (v := .tuple #[.int .i64 0, mis i a]) (by simp [results, Tryd.results48, go_sem]) rfl ⟨rfl, below_drewN (Below.refl _ _) _⟩

/-- What the program says of entry number i: nil where its Term is t, else an error of its own make at that number. -/
theorem faultOfTerm_any (ao : Option Addr) (n cap : Nat) (T : Nat → Int) (X : Nat → ByteArray) (i t : Int) (aE aO : Addr) (hn : n ≤ 9223372036854775807) (hc : n ≤ cap) (w : World) (hr : NRow w ao n T X)
    (hE : w.cell? ⟨2, 0, none⟩ = some (vE aE)) (hO : w.cell? ⟨1, 0, none⟩ = some (vE aO)) :
    Calls Tryd.prog 33 #[.slice ao n cap, .int .i64 i, .int .i64 t] w fun e w' => (fitB n T i t = true ∧ e = .returned .nilIface ∨ fitB n T i t = false ∧ ∃ a, e = .returned (mis i a)) ∧ Below w.heap.size w w' := by
  by_cases h : i < 0 ∨ (n : Int) < i
  · have hf : fitB n T i t = false := decide_eq_false (by omega)
    rw [hf]
    have hA := fun W h1 => termAt_out ao n cap i aE hn h W h1
    go_enter Tryd.func33, Tryd.ntmps33
    go_wp2_with fail
    refine (hA _ hE).mono ?_
    rintro e w1 ⟨rfl, hb1⟩
    go_wp2
    go_ret
    exact ⟨Or.inr ⟨trivial, _, rfl⟩, hb1⟩
  have hA := fun W h1 => termAt_in ao n cap T X i hn hc (by omega) (by omega) W h1
  by_cases ht : lastT i.toNat T = t
  · have hf : fitB n T i t = true := decide_eq_true ⟨by omega, by omega, ht⟩
    rw [hf]
    rw [ht] at hA
    go_enter Tryd.func33, Tryd.ntmps33
    go_wp2_with fail
    refine (hA _ hr).mono ?_
    rintro e w1 ⟨rfl, hq⟩
    have hq' := hq.symm
    subst hq'
    clear hq
    go_wp2
    go_ret
    exact ⟨Or.inl ⟨trivial, rfl⟩, Below.refl _ _⟩
  · have hf : fitB n T i t = false := decide_eq_false (by omega)
    rw [hf]
    generalize lastT i.toNat T = q at hA ht
    go_enter Tryd.func33, Tryd.ntmps33
    go_wp2_with fail
    refine (hA _ hr).mono ?_
    rintro e w1 ⟨rfl, hq⟩
    have hq' := hq.symm
    subst hq'
    clear hq
    go_wp2
    go_ret
    exact ⟨Or.inr ⟨trivial, _, rfl⟩, by first | exact Below.refl _ _ | exact below_drewN (Below.refl _ _) _⟩

theorem l10Fits_any (ao : Option Addr) (n cap : Nat) (T : Nat → Int) (X : Nat → ByteArray) (i t : Int) (hn : n ≤ 9223372036854775807) (w : World) (hr : NRow w ao n T X) :
    Calls Tryd.prog 32 #[.slice ao n cap, .int .i64 i, .int .i64 t] w fun e w' => e = .returned (.bool (fitB n T i t)) ∧ w' = w := by
  by_cases h0 : i = 0
  · subst h0
    have hf : fitB n T 0 t = decide (t = 0) := by
      unfold fitB lastT
      simp
      exact eq_comm
    rw [hf]
    go_enter Tryd.func32, Tryd.ntmps32
    go_wp2
    go_ret
    exact ⟨by simp; by_cases h9 : t = 0 <;> simp [h9], rfl⟩
  by_cases h1 : 1 ≤ i ∧ i ≤ n
  · obtain ⟨k, rfl⟩ : ∃ k : Nat, i = (k : Int) + 1 := ⟨(i - 1).toNat, by omega⟩
    have hf : fitB n T ((k : Int) + 1) t = decide (T k = t) := by
      have e : ((k : Int) + 1).toNat = k + 1 := by omega
      unfold fitB lastT
      rw [e, if_neg (by omega)]
      simp only [Nat.add_sub_cancel]
      have h9 : (0 : Int) ≤ (k : Int) + 1 := by omega
      simp [h9, h1.2]
    rw [hf]
    obtain ⟨b, o, rfl, c0, c1⟩ := hr k (by omega)
    have hb : inB ((k : Int) + 1) 1 (n : Int) = true := by simp [inB]; omega
    have hk1 : (k : Int) < (n : Int) := by omega
    have hk2 : (k : Int) + 1 - 1 = (k : Int) := by omega
    have hk3 : IntKind.i64.wrap ((k : Int) + 1 - 1) = (k : Int) := by rw [IntKind.wrap_i64]; omega
    have hk4 : ¬ ((k : Int) + 1 = 0) := by omega
    have HI : ∀ W, Calls Tryd.prog 35 #[.int .i64 ((k : Int) + 1), .int .i64 1, .int .i64 (n : Int)] W fun e w' => e = .returned (.bool true) ∧ w' = W := fun W => by rw [← hb]; exact l1In_any _ _ _ _
    go_enter Tryd.func32, Tryd.ntmps32
    go_wp2_with (go_at_call 35; refine (HI _).mono ?_; rintro e w1 ⟨rfl, hq⟩; have hq' := hq.symm; subst hq'; clear hq)
    go_ret
    exact ⟨by simp; by_cases h9 : T k = t <;> simp [h9], rfl⟩
  · have hf : fitB n T i t = false := decide_eq_false (by omega)
    rw [hf]
    have hb : inB i 1 (n : Int) = false := by simp [inB]; omega
    have HI : ∀ W, Calls Tryd.prog 35 #[.int .i64 i, .int .i64 1, .int .i64 (n : Int)] W fun e w' => e = .returned (.bool false) ∧ w' = W := fun W => by rw [← hb]; exact l1In_any _ _ _ _
    go_enter Tryd.func32, Tryd.ntmps32
    go_wp2_with (go_at_call 35; refine (HI _).mono ?_; rintro e w1 ⟨rfl, hq⟩; have hq' := hq.symm; subst hq'; clear hq)
    go_ret
    exact ⟨rfl, rfl⟩

theorem specFits_any (ao : Option Addr) (n cap : Nat) (T : Nat → Int) (X : Nat → ByteArray) (i t : Int) (hn : n ≤ 9223372036854775807) (hX : ∀ k, k < n → (X k).size ≤ 1048576) (w : World) (hr : NRow w ao n T X) :
    Calls Tryd.prog 16 #[.slice ao n cap, .int .i64 i, .int .i64 t] w fun e w' => e = .returned (.bool (logB n T X && fitB n T i t)) ∧ Below w.heap.size w w' := by
  have HL := fun W h => specLogOk_any ao n cap T X hn hX W h
  have HF := fun W h => l10Fits_any ao n cap T X i t hn W h
  generalize fitB n T i t = f at HF ⊢
  generalize logB n T X = l at HL ⊢
  go_enter Tryd.func16, Tryd.ntmps16
  go_wp2_with fail
  refine (HL _ hr).mono ?_
  rintro e w1 ⟨rfl, hb1⟩
  have hr1 := hr.below hb1 (Nat.le_refl _)
  cases l
  · go_wp2
    go_ret
    exact ⟨rfl, hb1⟩
  · go_wp2_with fail
    refine (HF _ hr1).mono ?_
    rintro e w2 ⟨rfl, hq⟩
    have hq' := hq.symm
    subst hq'
    clear hq
    go_wp2
    go_ret
    exact ⟨rfl, hb1⟩

theorem implFits_any (ao : Option Addr) (n cap : Nat) (T : Nat → Int) (X : Nat → ByteArray) (i t : Int) (aL aO aE : Addr) (hn : n ≤ 9223372036854775807) (hX : ∀ k, k < n → (X k).size ≤ 1048576) (hc : n ≤ cap) (w : World) (hr : NRow w ao n T X)
    (hL : w.cell? ⟨0, 0, none⟩ = some (vE aL)) (hO : w.cell? ⟨1, 0, none⟩ = some (vE aO)) (hE : w.cell? ⟨2, 0, none⟩ = some (vE aE)) :
    Calls Tryd.prog 17 #[.slice ao n cap, .int .i64 i, .int .i64 t] w fun e w' => e = .returned (.bool (logB n T X && fitB n T i t)) ∧ Below w.heap.size w w' := by
  have HL := fun W h h2 => implLogOk_any ao n cap T X aL hn hX W h h2
  have HF := fun W h h1 h2 => faultOfTerm_any ao n cap T X i t aE aO hn hc W h h1 h2
  generalize fitB n T i t = f at HF ⊢
  generalize logB n T X = l at HL ⊢
  go_enter Tryd.func17, Tryd.ntmps17
  go_wp2_with fail
  refine (HL _ hr hL).mono ?_
  rintro e w1 ⟨rfl, hb1⟩
  have hr1 := hr.below hb1 (Nat.le_refl _)
  have hE1 := keep_cell hb1 (Nat.le_refl _) hE
  have hO1 := keep_cell hb1 (Nat.le_refl _) hO
  cases l
  · go_wp2
    go_ret
    exact ⟨rfl, hb1⟩
  · go_wp2_with fail
    refine (HF _ hr1 hE1 hO1).mono ?_
    rintro e w2 ⟨hh, hb2⟩
    have hA2 := below_next hb1 (Nat.le_refl _) hb2
    rcases hh with ⟨rfl, rfl⟩ | ⟨rfl, a, rfl⟩
    · go_wp2
      go_ret
      exact ⟨rfl, hA2⟩
    · go_wp2
      go_ret
      exact ⟨rfl, hA2⟩

end Go.Proofs.YtcmeppjfjledfajDoor
