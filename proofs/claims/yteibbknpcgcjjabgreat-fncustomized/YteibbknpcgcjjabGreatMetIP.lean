/-
  The program's helpers over metrics: weights in their bounds, what a triangle tells.
-/
import Derived.Test.YteibbknpcgcjjabGreatPack5
import Derived.Test.YteibbknpcgcjjabGreatPack9
set_option linter.unusedVariables false
set_option linter.unusedSimpArgs false
namespace Go.Proofs.YteibbknpcgcjjabGreat
open Go.RowKit
attribute [local go_sem ↓] Go.wp_at_zero Go.wp_at_succ

set_option maxHeartbeats 2000000 in
theorem upBelow_any (uo : Option Addr) (u ucap : Nat) (U : Nat → Int) (vo : Option Addr) (v vcap : Nat) (V : Nat → Int) (t : Tr) (h1 : t.1 < v) (h2 : t.2.1 < u) (hU : InF u U) (hV : InF v V) (hu : u ≤ 1048576) (hv : v ≤ 1048576) (w : World) (rU : IRow w uo u U) (rV : IRow w vo v V) :
    Calls Tryz.prog 49 #[.agg #[.slice uo u ucap, .slice vo v vcap], .agg #[.int .i64 (t.1 : Int), .int .i64 (t.2.1 : Int), .int .i64 (t.2.2 : Int)]] w fun e w' => e = .returned (.int .i64 (upT U V t)) ∧ Below w.heap.size w w' := by
  obtain ⟨i, k, e⟩ := t
  simp only at h1 h2
  obtain ⟨b, o, hao, c0⟩ := rU k h2
  subst hao
  obtain ⟨b', o', hao', d0⟩ := rV i h1
  subst hao'
  have hB := ((Below.refl w.heap.size w).alloc (Nat.le_refl _) (.cells #[.slice (some ⟨b, o, none⟩) u ucap, .slice (some ⟨b', o', none⟩) v vcap] 34)).alloc (by simp) (.cells #[.int .i64 (i : Int), .int .i64 (k : Int), .int .i64 (e : Int)] 76)
  replace c0 := keep_cell hB (Nat.le_refl _) c0
  replace d0 := keep_cell hB (Nat.le_refl _) d0
  have hk1 : (0 : Int) ≤ (k : Int) := by omega
  have hk2 : (k : Int) < (u : Int) := by omega
  have hi1 : (0 : Int) ≤ (i : Int) := by omega
  have hi2 : (i : Int) < (v : Int) := by omega
  obtain ⟨uk0, uk1⟩ := hU k h2
  obtain ⟨vi0, vi1⟩ := hV i h1
  go_enter Tryz.func49, Tryz.ntmps49
  go_wp2
  go_quiet (first | (go_at_call 80; refine Calls.quiet_of_same (plus_any _ _ (by assumption) (by assumption) (by assumption) (by assumption) _)))
  go_wp2
  go_ret
  exact ⟨rfl, below_drewN hB _⟩
set_option maxHeartbeats 2000000 in
theorem downBelow_any (uo : Option Addr) (u ucap : Nat) (U : Nat → Int) (vo : Option Addr) (v vcap : Nat) (V : Nat → Int) (t : Tr) (h1 : t.2.1 < v) (h2 : t.1 < u) (hU : InF u U) (hV : InF v V) (hu : u ≤ 1048576) (hv : v ≤ 1048576) (w : World) (rU : IRow w uo u U) (rV : IRow w vo v V) :
    Calls Tryz.prog 50 #[.agg #[.slice uo u ucap, .slice vo v vcap], .agg #[.int .i64 (t.1 : Int), .int .i64 (t.2.1 : Int), .int .i64 (t.2.2 : Int)]] w fun e w' => e = .returned (.int .i64 (dnT U V t)) ∧ Below w.heap.size w w' := by
  obtain ⟨k, i, e⟩ := t
  simp only at h1 h2
  obtain ⟨b, o, hao, c0⟩ := rU k h2
  subst hao
  obtain ⟨b', o', hao', d0⟩ := rV i h1
  subst hao'
  have hB := ((Below.refl w.heap.size w).alloc (Nat.le_refl _) (.cells #[.slice (some ⟨b, o, none⟩) u ucap, .slice (some ⟨b', o', none⟩) v vcap] 34)).alloc (by simp) (.cells #[.int .i64 (k : Int), .int .i64 (i : Int), .int .i64 (e : Int)] 76)
  replace c0 := keep_cell hB (Nat.le_refl _) c0
  replace d0 := keep_cell hB (Nat.le_refl _) d0
  have hk1 : (0 : Int) ≤ (k : Int) := by omega
  have hk2 : (k : Int) < (u : Int) := by omega
  have hi1 : (0 : Int) ≤ (i : Int) := by omega
  have hi2 : (i : Int) < (v : Int) := by omega
  obtain ⟨uk0, uk1⟩ := hU k h2
  obtain ⟨vi0, vi1⟩ := hV i h1
  go_enter Tryz.func50, Tryz.ntmps50
  go_wp2
  go_quiet (first | (go_at_call 80; refine Calls.quiet_of_same (plus_any _ _ (by assumption) (by assumption) (by assumption) (by assumption) _)))
  go_wp2
  go_ret
  exact ⟨rfl, below_drewN hB _⟩

end Go.Proofs.YteibbknpcgcjjabGreat
