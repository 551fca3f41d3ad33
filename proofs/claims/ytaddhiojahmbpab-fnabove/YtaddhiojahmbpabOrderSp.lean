/-
  OrderOk, the document's, at every map and every list.
-/
import Derived.Test.YtaddhiojahmbpabOkP
import Derived.Test.YtaddhiojahmbpabRankSpec
set_option linter.unusedVariables false
set_option linter.unusedSimpArgs false
namespace Go.Proofs.Ytaddhiojahmbpab
open Go.RowKit
attribute [local go_sem ↓] Go.wp_at_zero Go.wp_at_succ

def ordB (p : Int) (n : Nat) (F T G : Nat → Int) (m : Nat) (P : Nat → Int) : Bool := graphB p n F T G && ((m : Int) == p && okR m P)
set_option maxHeartbeats 1000000 in
theorem specOrderOk_any (p : Int) (ao : Option Addr) (n cap : Nat) (F T G : Nat → Int) (po : Option Addr) (m pcap : Nat) (P : Nat → Int) (hn : n ≤ 1048576) (hm : m ≤ 1048576) (w : World) (hr : Row w ao n F T G) (hp : IRow w po m P) :
    Calls Try.prog 11 #[.agg #[.int .i64 p, .slice ao n cap], .slice po m pcap] w fun e w' => e = .returned (.bool (ordB p n F T G m P)) ∧ Below w.heap.size w w' := by
  rcases Bool.eq_false_or_eq_true (graphB p n F T G) with h | h
  rotate_left
  · go_enter Try.func11, Try.ntmps11
    go_wp2_with (go_at_call 22; refine (specGraphOk_any p ao n cap F T G hn _ (hr.alloc _)).mono ?_; rintro e w1 ⟨rfl, hb1⟩)
    go_ret
    exact ⟨ret_bool (by simp [ordB, h]), unbox hb1 (by simp)⟩
  rcases Bool.eq_false_or_eq_true ((m : Int) == p) with h2 | h2
  rotate_left
  · go_enter Try.func11, Try.ntmps11
    go_wp2_with (go_at_call 22; refine (specGraphOk_any p ao n cap F T G hn _ (hr.alloc _)).mono ?_; rintro e w1 ⟨rfl, hb1⟩; obtain ⟨hc, hf⟩ := bcell hb1)
    go_ret
    exact ⟨ret_bool (by simp only [ordB, h, h2]; rfl), unbox hb1 (by simp)⟩
  go_enter Try.func11, Try.ntmps11
  go_wp2_with (first | (go_at_call 22; refine (specGraphOk_any p ao n cap F T G hn _ (hr.alloc _)).mono ?_; rintro e w1 ⟨rfl, hb1⟩; obtain ⟨hc, hf⟩ := bcell hb1) | (go_at_call 23; refine (l3Each_any po m pcap P hm _ ((hp.alloc _).below hb1 (Nat.le_refl _))).mono ?_; rintro e w2 ⟨rfl, hb2⟩))
  go_ret
  exact ⟨ret_bool (by simp only [ordB, h, h2]; rfl), unbox (below_next hb1 (Nat.le_refl _) hb2) (by simp)⟩

end Go.Proofs.Ytaddhiojahmbpab
