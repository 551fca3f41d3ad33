/-
  Order, the document's, at every map of at most 2^20 arcs.
-/
import Derived.Test.YtaddhiojahmbpabOrdDoc
import Derived.Test.YtaddhiojahmbpabOkP
set_option linter.unusedVariables false
set_option linter.unusedSimpArgs false
namespace Go.Proofs.Ytaddhiojahmbpab
open Go.RowKit
attribute [local go_sem ↓] Go.wp_at_zero Go.wp_at_succ

def lenO (p : Int) (n : Nat) (F T G : Nat → Int) : Nat := if graphB p n F T G then p.toNat else 0
def listO (p : Int) (n : Nat) (F T : Nat → Int) : Nat → Int := (run3 p.toNat (nbA F T n) p.toNat).2.2
theorem lenO_le (p : Int) (n : Nat) (F T G : Nat → Int) : lenO p n F T G ≤ 24 := by
  unfold lenO
  split
  · next h =>
    have := graphB_p h
    simp [inB] at this
    omega
  · omega
theorem ok_arcs {p : Nat} {n : Nat} {F T G : Nat → Int} (h : graphB (p : Int) n F T G = true) : (1 ≤ p ∧ p ≤ 24) ∧ n ≤ 100 ∧ (∀ k, k < n → 0 ≤ F k ∧ F k < (p : Int)) ∧ (∀ k, k < n → 0 ≤ T k ∧ T k < (p : Int)) ∧ ∀ k, k < n → F k ≠ T k := by
  have h1 := graphB_p h
  have h2 := graphB_arcs h
  have he : ∀ k, k < n → (0 ≤ F k ∧ F k < (p : Int)) ∧ (0 ≤ T k ∧ T k < (p : Int)) ∧ F k ≠ T k := fun k hk => by
    have := (arcsB_each n h2.2 k hk).1
    simp [arcB, inB] at this
    omega
  simp [inB] at h1
  exact ⟨by omega, h2.1, fun k hk => (he k hk).1, fun k hk => (he k hk).2.1, fun k hk => (he k hk).2.2⟩
set_option maxHeartbeats 1000000 in
theorem specOrder_cap (p : Int) (ao : Option Addr) (n cap : Nat) (F T G : Nat → Int) (hn : n ≤ 1048576) (w : World) (hr : Row w ao n F T G) :
    Calls Try.prog 25 #[.agg #[.int .i64 p, .slice ao n cap]] w fun e w' => Ans w w' e (lenO p n F T G) (listO p n F T) ∧ ∀ ao m c, e = .returned (.slice ao m c) → m ≤ c := by
  rcases Bool.eq_false_or_eq_true (graphB p n F T G) with h | h
  rotate_left
  · have hL : lenO p n F T G = 0 := by simp [lenO, h]
    rw [hL]
    go_enter Try.func25, Try.ntmps25
    go_wp2_with (go_at_call 22; refine (specGraphOk_any p ao n cap F T G hn _ (hr.alloc _)).mono ?_; rintro e w1 ⟨rfl, hb1⟩)
    go_ret
    exact ⟨⟨_, _, rfl, fun h => by omega, unbox (hb1.alloc (by have := hb1.size; omega) _) (by simp)⟩, fun _ _ _ e => by cases e; exact Nat.le_refl _⟩
  have hpp : 1 ≤ p ∧ p ≤ 24 := by simpa [inB] using graphB_p h
  obtain ⟨pn, rfl⟩ : ∃ pn : Nat, p = (pn : Int) := ⟨p.toNat, by omega⟩
  have hL : lenO pn n F T G = pn := by simp [lenO, h]
  rw [hL]
  obtain ⟨⟨hp1, hp2⟩, hn1, hF, hT, hFT⟩ := ok_arcs h
  have HA : Hid ((∀ k, k < n → 0 ≤ F k ∧ F k < (pn : Int)) ∧ (∀ k, k < n → 0 ≤ T k ∧ T k < (pn : Int)) ∧ ∀ k, k < n → F k ≠ T k) := ⟨hF, hT, hFT⟩
  clear hL hF hT hFT hpp
  go_enter Try.func25, Try.ntmps25
  go_wp2_with (first | (go_at_call 22; refine (specGraphOk_any pn ao n cap F T G hn _ (hr.alloc _)).mono ?_; rintro e w1 ⟨rfl, hb1⟩; obtain ⟨hc, hf⟩ := bcell hb1) | (go_at_call 37; refine (l3Order_any pn ao n cap F T G hp1 hp2 hn1 HA.out.1 HA.out.2.1 HA.out.2.2 _ ((hr.alloc _).below hb1 (Nat.le_refl _))).mono ?_; rintro e w2 ⟨g, c, rfl, hg, hI, hb2, hrm⟩))
  go_ret
  exact ⟨⟨_, _, rfl, fun _ => ⟨g, rfl, by have := hb1.size; simp at this; omega, hI⟩, unbox (below_next hb1 (Nat.le_refl _) hb2) (by simp)⟩, fun _ _ _ e => by cases e; exact hrm⟩
theorem specOrder_any (p : Int) (ao : Option Addr) (n cap : Nat) (F T G : Nat → Int) (hn : n ≤ 1048576) (w : World) (hr : Row w ao n F T G) :
    Calls Try.prog 25 #[.agg #[.int .i64 p, .slice ao n cap]] w fun e w' => Ans w w' e (lenO p n F T G) (listO p n F T) := (specOrder_cap p ao n cap F T G hn w hr).mono (fun _ _ h => h.1)

end Go.Proofs.Ytaddhiojahmbpab
