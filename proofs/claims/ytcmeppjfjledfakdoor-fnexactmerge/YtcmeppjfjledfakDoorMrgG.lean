/-
  slices.Clone, slices.Grow (of nil), slices.Concat (of two) over entries, by their contracts.
-/
import Derived.Test.YtcmeppjfjledfakDoorEntO
import Derived.Lib.AppendZeros
set_option linter.unusedVariables false
set_option linter.unusedSimpArgs false
namespace Go.Proofs.YtcmeppjfjledfakDoor
open Go.RowKit Go.Maps
attribute [local go_sem ↓] Go.wp_at_zero Go.wp_at_succ

theorem eqlN_some (a : Addr) (n cap : Nat) (w : World) : (binOp BinOp.eql 24 (.slice (some a) n cap) (.slice none 0 0)).run Tryd.prog w = .ok (.bool false) w := by kernel_rfl
theorem eqlN_none (n cap : Nat) (w : World) : (binOp BinOp.eql 24 (.slice none n cap) (.slice none 0 0)).run Tryd.prog w = .ok (.bool true) w := by kernel_rfl
set_option maxRecDepth 100000 in
set_option maxHeartbeats 2000000 in
theorem cloneN_pos (b o n cap : Nat) (T : Nat → Int) (X : Nat → ByteArray) (hn : n ≤ 1048576) (hpos : 0 < n) (w : World) (hr : NRow w (some ⟨b, o, none⟩) n T X) :
    Calls Tryd.prog 28 #[.slice (some ⟨b, o, none⟩) n cap] w fun e w' => ∃ ao' cap', e = .returned (.slice ao' n cap') ∧ NOwn w w' ao' n T X ∧ Below w.heap.size w w' := by
  obtain ⟨i0, hi0, hz0, hz1, hz2⟩ := info_parts Tryd.infoEntry
  have hnil := fun W => eqlN_some ⟨b, o, none⟩ n cap W
  go_enter Tryd.func28, Tryd.ntmps28
  go_wp2_with (at_builtin; refine wpList_append_lies _ rfl _ _ _ rfl w.heap.size 36 i0 _ 2 24 Tryd.underlying24 hi0 hz0 hz1 hz2 rfl (by omega) (.slice (some ⟨w.heap.size, 0, none⟩) 0 0) 0 [] rfl (empty_ownsN w) ⟨b, o, none⟩ n cap (nCells T X n) rfl (nCells_len _ _ _) (NRow.news (hr.alloc _)) (nCells_one _ _ _) hpos (by unfold maxLen; omega) (by omega) (by simp) (w.heap.size + 1) (by simp) ?_; intro g cap' w1 hown1 hgrow hat hlt)
  simp only [Nat.zero_add, List.nil_append] at hown1 ⊢
  obtain ⟨hhas, hg2⟩ := nhas_of_owns hown1 rfl
  go_wp2
  go_ret
  refine ⟨_, _, rfl, fun _ => ⟨g, rfl, hg2, hhas⟩, ?_⟩
  refine Below.grown ((Below.refl _ _).alloc (Nat.le_refl _) _) hgrow (by simp) ?_
  intro k hk
  simp [Value.ownBlock] at hk
  omega
set_option maxRecDepth 100000 in
set_option maxHeartbeats 2000000 in
theorem cloneN_zero (ao : Option Addr) (cap : Nat) (T : Nat → Int) (X : Nat → ByteArray) (w : World) :
    Calls Tryd.prog 28 #[.slice ao 0 cap] w fun e w' => ∃ ao' cap', e = .returned (.slice ao' 0 cap') ∧ NOwn w w' ao' 0 T X ∧ Below w.heap.size w w' := by
  have hsc : ∀ (a : Addr) (w : World), (storeCells a []).run Tryd.prog w = .ok () w := fun _ _ => rfl
  cases ao with
  | none =>
    have hnil := fun W => eqlN_none 0 cap W
    go_enter Tryd.func28, Tryd.ntmps28
    go_wp2
    go_ret
    exact ⟨_, _, rfl, fun h => by omega, by first | exact Below.refl _ _ | exact (Below.refl _ _).alloc (Nat.le_refl _) _⟩
  | some a =>
    have hnil := fun W => eqlN_some a 0 cap W
    go_enter Tryd.func28, Tryd.ntmps28
    go_wp2
    go_ret
    exact ⟨_, _, rfl, fun h => by omega, by first | exact Below.refl _ _ | exact (Below.refl _ _).alloc (Nat.le_refl _) _⟩
theorem cloneN_any (ao : Option Addr) (n cap : Nat) (T : Nat → Int) (X : Nat → ByteArray) (hn : n ≤ 1048576) (w : World) (hr : NRow w ao n T X) :
    Calls Tryd.prog 28 #[.slice ao n cap] w fun e w' => ∃ ao' cap', e = .returned (.slice ao' n cap') ∧ NOwn w w' ao' n T X ∧ Below w.heap.size w w' := by
  by_cases h : 0 < n
  · obtain ⟨b, o, e, _⟩ := hr 0 h
    subst e
    exact cloneN_pos b o n cap T X hn h w hr
  · obtain rfl : n = 0 := by omega
    exact cloneN_zero ao cap T X w

set_option maxRecDepth 100000 in
set_option maxHeartbeats 2000000 in
theorem growN_any (n : Nat) (hn : n ≤ 3000000) (hpos : 0 < n) (w : World) :
    Calls Tryd.prog 37 #[.slice none 0 0, .int .i64 n] w fun e w' => ∃ g cap, e = .returned (.slice (some ⟨g, 0, none⟩) 0 cap) ∧ n ≤ cap ∧ w'.ownsRow w.heap.size 36 2 (.slice (some ⟨g, 0, none⟩) 0 cap) 0 [] ∧ Below w.heap.size w w' := by
  obtain ⟨i0, hi0, hz0, hz1, hz2⟩ := info_parts Tryd.infoEntry
  have h1 : ¬ (n : Int) < 0 := by omega
  have h2 : (0 : Int) < (n : Int) := by omega
  go_enter Tryd.func37, Tryd.ntmps37
  have hrun := fun W => Lib.run_append_nil_zeros (P := Tryd.prog) W 24 3 24 36 i0 _ .i64 .i64 Tryd.underlying24 Tryd.underlying3 hi0 hz0 n hpos (by omega) (by omega) (by rw [hz2]; omega)
  go_wp2_with (at_builtin; refine Lib.wpList_append_run _ rfl _ _ 24 3 rfl (.slice none 0 0) (.int .i64 n) rfl rfl _ _ (hrun _) ?_)
  have hge := grownCap_ge w n 0 36
  have hle := grownCap_le_maxLen w n 0 36 (by unfold maxLen; omega)
  go_ret
  refine ⟨_, _, rfl, hge, ⟨rfl, .inr ⟨_, _, _, rfl, Nat.le_refl _, Go.Deep.blk_alloc_new _ _, Nat.zero_le _, hle, ?_, by simp⟩⟩, ((Below.refl _ _).alloc (Nat.le_refl _) _).drew⟩
  rw [Array.size_append, size_zeroCells, size_zeroCells]
  simp
  omega

set_option maxRecDepth 100000 in
set_option maxHeartbeats 4000000 in
theorem concatN_any (q : Nat) (ao1 ao2 : Option Addr) (n1 n2 cap1 cap2 : Nat) (T U : Nat → Int) (X Y : Nat → ByteArray) (h1 : n1 ≤ 1048576) (h2 : n2 ≤ 1048576) (hp : 0 < n2) (w : World)
    (hq1 : w.cell? ⟨q, 0, none⟩ = some (.slice ao1 n1 cap1)) (hq2 : w.cell? ⟨q, 1, none⟩ = some (.slice ao2 n2 cap2)) (hr1 : NRow w ao1 n1 T X) (hr2 : NRow w ao2 n2 U Y) :
    Calls Tryd.prog 29 #[.slice (some ⟨q, 0, none⟩) 2 2] w fun e w' => ∃ ao cap, e = .returned (.slice ao (n1 + n2) cap) ∧ (∃ g, ao = some ⟨g, 0, none⟩ ∧ w'.ownsRow w.heap.size 36 2 (.slice ao (n1 + n2) cap) (n1 + n2) (nCells T X n1 ++ nCells U Y n2)) ∧ Below w.heap.size w w' := by
  have e1 : ¬ (n1 : Int) < 0 := by omega
  have e2 : ¬ (n1 : Int) + (n2 : Int) < 0 := by omega
  have e3 : IntKind.i64.wrap ((n1 : Int) + (n2 : Int)) = ((n1 + n2 : Nat) : Int) := by rw [IntKind.wrap_i64]; omega
  go_enter Tryd.func29, Tryd.ntmps29
  go_wp2
  refine wp_loop_rounds 3 ?_
  rw [rounds_succ]
  go_wp2
  rw [rounds_succ]
  go_wp2
  rw [rounds_succ]
  go_wp2_with fail
  have hG := growN_any (n1 + n2) (by omega) (by omega) w
  simp only [Int.natCast_add] at hG
  refine hG.mono ?_
  rintro e w1 ⟨g, cap, rfl, hcap, hown, hb1⟩
  clear hG e3
  obtain ⟨i0, hi0, hz0, hz1, hz2⟩ := info_parts Tryd.infoEntry
  have q1 := keep_cell hb1 (Nat.le_refl _) hq1
  have q2 := keep_cell hb1 (Nat.le_refl _) hq2
  obtain ⟨b2, o2, hao2, _⟩ := hr2 0 hp
  subst hao2
  by_cases hz : 0 < n1
  · obtain ⟨b1, o1, hao1, _⟩ := hr1 0 hz
    subst hao1
    go_wp2
    refine wp_loop_rounds 3 ?_
    rw [rounds_succ]
    go_wp2_with (at_builtin; refine wpList_append_lies _ rfl _ _ _ rfl w.heap.size 36 i0 _ 2 24 Tryd.underlying24 hi0 hz0 hz1 hz2 rfl (by omega) (.slice (some ⟨g, 0, none⟩) 0 cap) 0 [] rfl hown ⟨b1, o1, none⟩ n1 cap1 (nCells T X n1) rfl (nCells_len _ _ _) (NRow.news (hr1.below hb1 (Nat.le_refl _))) (nCells_one _ _ _) hz (by unfold maxLen; omega) (by omega) hb1.size w1.heap.size rfl ?_; intro g2 cap3 w2 hown2 hgrow hat hlt)
    simp only [Nat.zero_add, List.nil_append] at hown2 ⊢
    have hg0 : w.heap.size ≤ g := (nhas_of_owns (T := T) (X := X) hown rfl).2
    have hA2 : Below w.heap.size w w2 := Below.grown hb1 hgrow hb1.size (fun k hk => by simp [Value.ownBlock] at hk; omega)
    have q1 := keep_cell hA2 (Nat.le_refl _) hq1
    have q2 := keep_cell hA2 (Nat.le_refl _) hq2
    clear hown hgrow hat hb1
    go_wp2
    rw [rounds_succ]
    go_wp2_with (at_builtin; refine wpList_append_lies _ rfl _ _ _ rfl w.heap.size 36 i0 _ 2 24 Tryd.underlying24 hi0 hz0 hz1 hz2 rfl (by omega) (.slice (some ⟨g2, 0, none⟩) n1 cap3) n1 (nCells T X n1) rfl hown2 ⟨b2, o2, none⟩ n2 cap2 (nCells U Y n2) rfl (nCells_len _ _ _) (NRow.news (hr2.below hA2 (Nat.le_refl _))) (nCells_one _ _ _) hp (by unfold maxLen; omega) (by omega) hA2.size w2.heap.size rfl ?_; intro g3 cap4 w3 hown3 hgrow hat3 hlt3)
    have hg2 : w.heap.size ≤ g2 := (nhas_of_owns hown2 rfl).2
    have hA3 : Below w.heap.size w w3 := Below.grown hA2 hgrow hA2.size (fun k hk => by simp [Value.ownBlock] at hk; omega)
    clear hown2 hgrow hat3
    go_wp2
    rw [rounds_succ]
    go_wp2
    go_ret
    exact ⟨_, _, rfl, ⟨g3, rfl, hown3⟩, hA3⟩
  · obtain rfl : n1 = 0 := by omega
    have hsc : ∀ (a : Addr) (w : World), (storeCells a []).run Tryd.prog w = .ok () w := fun _ _ => rfl
    have hnc : nCells T X 0 = [] := rfl
    have hg0 : w.heap.size ≤ g := (nhas_of_owns (T := T) (X := X) hown rfl).2
    have hrow2 := hr2.below hb1 (Nat.le_refl _)
    have hz9 := hb1.size
    cases ao1 with
    | none =>
      go_wp2
      refine wp_loop_rounds 3 ?_
      rw [rounds_succ]
      go_wp2
      rw [rounds_succ]
      go_wp2_with (at_builtin; refine wpList_append_lies _ rfl _ _ _ rfl w.heap.size 36 i0 _ 2 24 Tryd.underlying24 hi0 hz0 hz1 hz2 rfl (by omega) (.slice (some ⟨g, 0, none⟩) 0 cap) 0 [] rfl hown ⟨b2, o2, none⟩ n2 cap2 (nCells U Y n2) rfl (nCells_len _ _ _) (NRow.news hrow2) (nCells_one _ _ _) hp (by unfold maxLen; omega) (by omega) hz9 w1.heap.size rfl ?_; intro g3 cap4 w3 hown3 hgrow hat3 hlt3)
      have hA3 : Below w.heap.size w w3 := Below.grown hb1 hgrow hz9 (fun k hk => by simp [Value.ownBlock] at hk; omega)
      clear hown hgrow hat3
      go_wp2
      rw [rounds_succ]
      go_wp2
      go_ret
      simp only [Nat.zero_add, List.nil_append, hnc] at hown3 ⊢
      exact ⟨_, _, rfl, ⟨g3, rfl, hown3⟩, hA3⟩
    | some a1 =>
      go_wp2
      refine wp_loop_rounds 3 ?_
      rw [rounds_succ]
      go_wp2
      rw [rounds_succ]
      go_wp2_with (at_builtin; refine wpList_append_lies _ rfl _ _ _ rfl w.heap.size 36 i0 _ 2 24 Tryd.underlying24 hi0 hz0 hz1 hz2 rfl (by omega) (.slice (some ⟨g, 0, none⟩) 0 cap) 0 [] rfl hown ⟨b2, o2, none⟩ n2 cap2 (nCells U Y n2) rfl (nCells_len _ _ _) (NRow.news hrow2) (nCells_one _ _ _) hp (by unfold maxLen; omega) (by omega) hz9 w1.heap.size rfl ?_; intro g3 cap4 w3 hown3 hgrow hat3 hlt3)
      have hA3 : Below w.heap.size w w3 := Below.grown hb1 hgrow hz9 (fun k hk => by simp [Value.ownBlock] at hk; omega)
      clear hown hgrow hat3
      go_wp2
      rw [rounds_succ]
      go_wp2
      go_ret
      simp only [Nat.zero_add, List.nil_append, hnc] at hown3 ⊢
      exact ⟨_, _, rfl, ⟨g3, rfl, hown3⟩, hA3⟩

end Go.Proofs.YtcmeppjfjledfakDoor
