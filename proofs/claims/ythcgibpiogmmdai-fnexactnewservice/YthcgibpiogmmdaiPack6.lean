/-
  Helpers, merged: HierLaw, EdgeHeld, HierHeld, Eq, Copy, Open, HasLaw, Held, SvLaw.
-/
import Derived.Test.YthcgibpiogmmdaiPack3
import Derived.Test.YthcgibpiogmmdaiPack5
import Derived.Test.YthcgibpiogmmdaiPack1
/-
  The laws' helpers over hierarchies: measured, copied, held against each other, marked.
-/
set_option linter.unusedVariables false
set_option linter.unusedSimpArgs false
namespace Go.Proofs.Ythcgibpiogmmdai
open Go.RowKit
attribute [local go_sem ↓] Go.wp_at_zero Go.wp_at_succ

theorem szInt64S_in (ao : Option Addr) (n cap : Nat) (l : Int) (h0 : (n : Int) ≤ l) (hl : l ≤ 1048576) (w : World) :
    Calls Try.prog 71 #[.slice ao n cap, .int .i64 l] w fun e w' => e = .returned (.int .i64 (l - n)) ∧ w' = w := by
  go_enter Try.func71, Try.ntmps71
  go_wp2
  go_ret
  exact ⟨rfl, rfl⟩
theorem szInt64S_out (ao : Option Addr) (n cap : Nat) (l : Int) (h0 : l < (n : Int)) (h1 : 0 ≤ l) (hl : l ≤ 1048576) (hn : n ≤ 9223372036854775807) (w : World) :
    Calls Try.prog 71 #[.slice ao n cap, .int .i64 l] w fun e w' => e = .returned (.int .i64 (-1)) ∧ w' = w := by
  go_enter Try.func71, Try.ntmps71
  go_wp2
  go_ret
  exact ⟨rfl, rfl⟩
theorem szHier_in (po : Option Addr) (k pcap : Nat) (eo : Option Addr) (m ecap : Nat) (l : Int) (h0 : (k : Int) + (m : Int) ≤ l) (hl : l ≤ 1048576) (w : World) :
    Calls Try.prog 44 #[.agg #[.slice po k pcap, .slice eo m ecap], .int .i64 l] w fun e w' => e = .returned (.int .i64 (l - k - m)) ∧ Below w.heap.size w w' := by
  have hkl : ¬ l - (k : Int) < 0 := by omega
  have hkm : ¬ l - (k : Int) - (m : Int) < 0 := by omega
  go_enter Try.func44, Try.ntmps44
  go_wp2_with (first | (go_at_call 71; refine (szInt64S_in po k pcap l (by omega) hl _).mono ?_; rintro e w1 ⟨rfl, rfl⟩) | (go_at_call 72; refine (szEdgeS_in eo m ecap (l - k) (by omega) (by omega) _).mono ?_; rintro e w1 ⟨rfl, rfl⟩))
  go_ret
  exact ⟨rfl, (Below.refl _ _).alloc (Nat.le_refl _) _⟩
theorem szHier_out (po : Option Addr) (k pcap : Nat) (eo : Option Addr) (m ecap : Nat) (l : Int) (h0 : l < (k : Int) + (m : Int)) (h1 : 0 ≤ l) (hl : l ≤ 1048576) (hk : k ≤ 9223372036854775807) (hm : m ≤ 9223372036854775807) (w : World) :
    Calls Try.prog 44 #[.agg #[.slice po k pcap, .slice eo m ecap], .int .i64 l] w fun e w' => e = .returned (.int .i64 (-1)) ∧ Below w.heap.size w w' := by
  by_cases hkl : l < (k : Int)
  · go_enter Try.func44, Try.ntmps44
    go_wp2_with (go_at_call 71; refine (szInt64S_out po k pcap l hkl h1 hl hk _).mono ?_; rintro e w1 ⟨rfl, rfl⟩)
    go_ret
    exact ⟨rfl, (Below.refl _ _).alloc (Nat.le_refl _) _⟩
  · have hkl' : ¬ l - (k : Int) < 0 := by omega
    go_enter Try.func44, Try.ntmps44
    go_wp2_with (first | (go_at_call 71; refine (szInt64S_in po k pcap l (by omega) hl _).mono ?_; rintro e w1 ⟨rfl, rfl⟩) | (go_at_call 72; refine (szEdgeS_out eo m ecap (l - k) (by omega) (by omega) (by omega) hm _).mono ?_; rintro e w1 ⟨rfl, rfl⟩))
    go_ret
    exact ⟨rfl, (Below.refl _ _).alloc (Nat.le_refl _) _⟩
set_option maxHeartbeats 1000000 in
theorem toHier_any (po : Option Addr) (k pcap : Nat) (P : Nat → Int) (eo : Option Addr) (m ecap : Nat) (L H : Nat → Int) (hk : k ≤ 1048576) (hm : m ≤ 1048576) (w : World) (hp : IRow w po k P) (he : ERow w eo m L H) :
    Calls Try.prog 47 #[.agg #[.slice po k pcap, .slice eo m ecap]] w fun e w' => ∃ b c, e = .returned (.agg #[.slice (some ⟨b, 0, none⟩) k k, .slice (some ⟨c, 0, none⟩) m m]) ∧ w.heap.size ≤ b ∧ b < c ∧ IHas w' b k P ∧ EHas w' c m (er L H) ∧ Below w.heap.size w w' := by
  go_enter Try.func47, Try.ntmps47
  go_wp2_with fail
  refine (toInt64S_any po k pcap P hk _ (((hp.alloc _).alloc _).alloc _)).mono ?_
  rintro e w1 ⟨rfl, hI1, hb1⟩
  obtain ⟨hc, hf⟩ := bcell hb1
  simp only [World.size_alloc] at hI1
  have hz : w.heap.size + 1 + 1 + 1 < w1.heap.size := hI1.lt
  have hB1 : Below w.heap.size w w1 := unbox (unbox (unbox hb1 (by simp)) (by simp)) (by simp)
  have c20 : w1.cell? ⟨w.heap.size + 1 + 1, 0, none⟩ = some (.slice none 0 0) := by rw [hc _ _ (by simp)]; simp [go_sem]
  have c21 : w1.cell? ⟨w.heap.size + 1 + 1, 1, none⟩ = some (.slice none 0 0) := by rw [hc _ _ (by simp)]; simp [go_sem]
  have c10 : w1.cell? ⟨w.heap.size + 1, 0, none⟩ = some (.slice none 0 0) := by rw [hc _ _ (by simp)]; simp [go_sem]
  have c11 : w1.cell? ⟨w.heap.size + 1, 1, none⟩ = some (.slice none 0 0) := by rw [hc _ _ (by simp)]; simp [go_sem]
  have f2 : ∀ o, w1.frozen? ⟨w.heap.size + 1 + 1, o, none⟩ = false := fun o => by rw [hf _ _ (by simp)]; simp [go_sem]
  have f1 : ∀ o, w1.frozen? ⟨w.heap.size + 1, o, none⟩ = false := fun o => by rw [hf _ _ (by simp)]; simp [go_sem]
  go_wp2_with fail
  have hB2 := hB1.setCell (p := ⟨w.heap.size + 1 + 1, 0, none⟩) (by simp; omega) (.slice (some ⟨w.heap.size + 1 + 1 + 1, 0, none⟩) k k)
  have hI2 := hI1.grown (gr_setCell w1 (w.heap.size + 1 + 1) 0 (.slice (some ⟨w.heap.size + 1 + 1 + 1, 0, none⟩) k k)) (by simp)
  have hz2 : (w1.setCell ⟨w.heap.size + 1 + 1, 0, none⟩ (.slice (some ⟨w.heap.size + 1 + 1 + 1, 0, none⟩) k k)).heap.size = w1.heap.size := by simp [World.setCell]
  refine (toEdgeS_any eo m ecap L H hm _ (he.below hB2 (Nat.le_refl _))).mono ?_
  rintro e w3 ⟨rfl, hE3, hb3⟩
  obtain ⟨hc3, hf3⟩ := bcell hb3
  rw [hz2] at hc3 hf3 hE3
  have d20 : w3.cell? ⟨w.heap.size + 1 + 1, 0, none⟩ = some (.slice (some ⟨w.heap.size + 1 + 1 + 1, 0, none⟩) k k) := by rw [hc3 _ _ (by omega)]; simp [go_sem, c20]
  have d21 : w3.cell? ⟨w.heap.size + 1 + 1, 1, none⟩ = some (.slice none 0 0) := by rw [hc3 _ _ (by omega)]; simp [go_sem, c21]
  have d10 : w3.cell? ⟨w.heap.size + 1, 0, none⟩ = some (.slice none 0 0) := by rw [hc3 _ _ (by omega)]; simp [go_sem, c10]
  have d11 : w3.cell? ⟨w.heap.size + 1, 1, none⟩ = some (.slice none 0 0) := by rw [hc3 _ _ (by omega)]; simp [go_sem, c11]
  have g2 : ∀ o, w3.frozen? ⟨w.heap.size + 1 + 1, o, none⟩ = false := fun o => by rw [hf3 _ _ (by omega)]; simp [go_sem, f2]
  have g1 : ∀ o, w3.frozen? ⟨w.heap.size + 1, o, none⟩ = false := fun o => by rw [hf3 _ _ (by omega)]; simp [go_sem, f1]
  have hI3 := hI2.below hb3 hI2.lt
  have hB3 := below_next hB2 (Nat.le_refl _) hb3
  have hz3 : w1.heap.size < w3.heap.size := hE3.lt
  clear hc hf hc3 hf3 c20 c21 c10 c11 f2 f1 hI1 hb1 hb3 hB1 hB2 hI2 hz2
  go_wp2
  have hI4 := ((hI3.grown (gr_setCell w3 (w.heap.size + 1 + 1) 1 (.slice (some ⟨w1.heap.size, 0, none⟩) m m)) (by simp)).grown (gr_setCell _ (w.heap.size + 1) 0 (.slice (some ⟨w.heap.size + 1 + 1 + 1, 0, none⟩) k k)) (by simp; omega)).grown (gr_setCell _ (w.heap.size + 1) 1 (.slice (some ⟨w1.heap.size, 0, none⟩) m m)) (by simp; omega)
  have hE4 := ((hE3.grown (gr_setCell w3 (w.heap.size + 1 + 1) 1 (.slice (some ⟨w1.heap.size, 0, none⟩) m m)) (by simp; omega)).grown (gr_setCell _ (w.heap.size + 1) 0 (.slice (some ⟨w.heap.size + 1 + 1 + 1, 0, none⟩) k k)) (by simp; omega)).grown (gr_setCell _ (w.heap.size + 1) 1 (.slice (some ⟨w1.heap.size, 0, none⟩) m m)) (by simp; omega)
  have hB4 := ((hB3.setCell (p := ⟨w.heap.size + 1 + 1, 1, none⟩) (by simp; omega) (.slice (some ⟨w1.heap.size, 0, none⟩) m m)).setCell (p := ⟨w.heap.size + 1, 0, none⟩) (by simp) (.slice (some ⟨w.heap.size + 1 + 1 + 1, 0, none⟩) k k)).setCell (p := ⟨w.heap.size + 1, 1, none⟩) (by simp) (.slice (some ⟨w1.heap.size, 0, none⟩) m m)
  have r0 : (((w3.setCell ⟨w.heap.size + 1 + 1, 1, none⟩ (.slice (some ⟨w1.heap.size, 0, none⟩) m m)).setCell ⟨w.heap.size + 1, 0, none⟩ (.slice (some ⟨w.heap.size + 1 + 1 + 1, 0, none⟩) k k)).setCell ⟨w.heap.size + 1, 1, none⟩ (.slice (some ⟨w1.heap.size, 0, none⟩) m m)).cell? ⟨w.heap.size + 1, 0, none⟩ = some (.slice (some ⟨w.heap.size + 1 + 1 + 1, 0, none⟩) k k) := by simp [go_sem, d10, d11]
  have r1 : (((w3.setCell ⟨w.heap.size + 1 + 1, 1, none⟩ (.slice (some ⟨w1.heap.size, 0, none⟩) m m)).setCell ⟨w.heap.size + 1, 0, none⟩ (.slice (some ⟨w.heap.size + 1 + 1 + 1, 0, none⟩) k k)).setCell ⟨w.heap.size + 1, 1, none⟩ (.slice (some ⟨w1.heap.size, 0, none⟩) m m)).cell? ⟨w.heap.size + 1, 1, none⟩ = some (.slice (some ⟨w1.heap.size, 0, none⟩) m m) := by simp [go_sem, d10, d11]
  generalize (((w3.setCell ⟨w.heap.size + 1 + 1, 1, none⟩ (.slice (some ⟨w1.heap.size, 0, none⟩) m m)).setCell ⟨w.heap.size + 1, 0, none⟩ (.slice (some ⟨w.heap.size + 1 + 1 + 1, 0, none⟩) k k)).setCell ⟨w.heap.size + 1, 1, none⟩ (.slice (some ⟨w1.heap.size, 0, none⟩) m m)) = W4 at hI4 hE4 hB4 r0 r1 ⊢
  simp [bodyPost, results, Try.results47, go_sem, r0, r1]
  exact ⟨_, _, ⟨rfl, rfl⟩, by omega, by omega, hI4, hE4, hB4⟩
set_option maxHeartbeats 1000000 in
theorem eqHier_same (po po' : Option Addr) (k pcap pcap' : Nat) (P : Nat → Int) (eo eo' : Option Addr) (m ecap ecap' : Nat) (L H : Nat → Int) (hk : k ≤ 1048576) (hm : m ≤ 1048576) (w : World) (hp : IRow w po k P) (hp' : IRow w po' k P) (he : ERow w eo m L H) (he' : ERow w eo' m L H) :
    Calls Try.prog 36 #[.agg #[.slice po k pcap, .slice eo m ecap], .agg #[.slice po' k pcap', .slice eo' m ecap']] w fun e w' => e = .returned (.bool true) ∧ Below w.heap.size w w' := by
  go_enter Try.func36, Try.ntmps36
  go_wp2_with fail
  refine (eqInt64S_same po po' k pcap pcap' P hk _ ((hp.alloc _).alloc _) ((hp'.alloc _).alloc _)).mono ?_
  rintro e w1 ⟨rfl, hb1⟩
  have hB1 : Below w.heap.size w w1 := unbox (unbox hb1 (by simp)) (by simp)
  have c01 := keep_cell hb1 (Nat.le_refl _) (b := w.heap.size) (o := 1) (by simp [go_sem]; rfl)
  have c11 := keep_cell hb1 (Nat.le_refl _) (b := w.heap.size + 1) (o := 1) (by simp [go_sem]; rfl)
  clear hb1
  go_wp2_with fail
  refine (eqEdgeS_same eo eo' m ecap ecap' L H hm _ (he.below hB1 (Nat.le_refl _)) (he'.below hB1 (Nat.le_refl _))).mono ?_
  rintro e w2 ⟨rfl, hb2⟩
  go_wp2
  go_ret
  exact ⟨rfl, below_next hB1 (Nat.le_refl _) hb2⟩
set_option maxHeartbeats 1000000 in
theorem markHier_any (b c k m pcap ecap : Nat) (f h : Nat → Int) (q : Int) (hq0 : 0 ≤ q) (hq1 : q + (k : Int) ≤ 4000000) (hk : k ≤ 1048576) (hm : m ≤ 1048576) (w : World) (hi : 0 < k → IHas w b k f) (he : 0 < m → EHas w c m h) (hbc : b ≠ c) (po : Option Addr) (hpo : 0 < k → po = some ⟨b, 0, none⟩) (eo : Option Addr) (heo : 0 < m → eo = some ⟨c, 0, none⟩) (hbl : b < w.heap.size) (hcl : c < w.heap.size) :
    Calls Try.prog 39 #[.agg #[.slice po k pcap, .slice eo m ecap], .int .i64 q] w fun e w' => e = .returned (.int .i64 (q + k + 2 * m)) ∧ (0 < k → IHas w' b k (mki q)) ∧ (0 < m → EHas w' c m (mke (q + k))) ∧ Turns w w' [b, c] := by
  go_enter Try.func39, Try.ntmps39
  go_wp2_with fail
  have hal := (Below.refl w.heap.size w).alloc (Nat.le_refl _) (.cells #[.slice po k pcap, .slice eo m ecap] 41)
  refine (markInt64S_any b k pcap f q hq0 (by omega) hk _ (fun h => (hi h).below hal (hi h).lt) po hpo).mono ?_
  rintro e w1 ⟨rfl, hi1, hg1⟩
  have c1 : w1.cell? ⟨w.heap.size, 1, none⟩ = some (.slice eo m ecap) := hg1.cell (by simp [go_sem]) (by simp; omega)
  have T1 : Turns w w1 [b, c] := (Turns.of_below hal (Nat.le_refl _) _).trans ((Turns.of_grown hg1).more (by simp))
  have he1 : 0 < m → EHas w1 c m h := fun x => ((he x).below hal (he x).lt).grown hg1 (by simp; omega)
  have hq3 : 0 ≤ q + (k : Int) := by omega
  have hq4 : q + (k : Int) ≤ 4000000 := by omega
  clear hg1
  go_wp2_with fail
  refine (markEdgeS_any c m ecap h (q + k) hq3 hq4 hm _ he1 eo heo).mono ?_
  rintro e w2 ⟨rfl, he2, hg2⟩
  go_wp2
  go_ret
  exact ⟨rfl, fun x => (hi1 x).grown hg2 (by simp; omega), he2, T1.trans ((Turns.of_grown hg2).more (by simp))⟩

end Go.Proofs.Ythcgibpiogmmdai

/-
  The look whether the marks in an answer's edges are still held.
-/
set_option linter.unusedVariables false
set_option linter.unusedSimpArgs false
namespace Go.Proofs.Ythcgibpiogmmdai
open Go.RowKit
attribute [local go_sem ↓] Go.wp_at_zero Go.wp_at_succ

set_option maxHeartbeats 1000000 in
theorem heldEdgeS_any (b n cap : Nat) (k : Int) (hk0 : 0 ≤ k) (hk1 : k ≤ 4000000) (hn : n ≤ 1048576) (w : World) (h : 0 < n → EHas w b n (mke k)) (ao : Option Addr) (hao : 0 < n → ao = some ⟨b, 0, none⟩) :
    Calls Try.prog 70 #[.slice ao n cap, .int .i64 k] w fun e w' => e = .returned (.int .i64 (k + 2 * n)) ∧ w' = w := by
  go_enter Try.func70, Try.ntmps70
  go_wp2
  go_loop [1, 5] (fun q i => ∃ m : Nat, m ≤ n ∧ i = .int .i64 m ∧ q = .int .i64 (k + 2 * m)) (fun _ i => n - (intOf i).toNat)
  case atStart => exact ⟨0, Nat.zero_le _, rfl, by simp⟩
  case round =>
    obtain ⟨m, hm, rfl, rfl⟩ := hrel
    by_cases hlt : m < n
    rotate_left
    · have e : m = n := by omega
      subst e
      go_wp2
      go_ret
      exact ⟨rfl, rfl⟩
    obtain rfl := hao (by omega)
    have HH := h (by omega)
    have d0 : w.cell? ⟨b, m * 2, none⟩ = some (.int .i64 (k + 2 * m)) := by
      rw [HH.cell (by omega)]; simp [mke]; omega
    have d1 : w.cell? ⟨b, m * 2 + 1, none⟩ = some (.int .i64 (k + 2 * m + 1)) := by
      rw [HH.cell (by omega)]; simp [mke]; omega
    clear HH
    go_wp2
    go_round
    case rel => exact ⟨m + 1, by omega, by go_num, by go_num⟩
    case measure => simp [intOf]; omega

end Go.Proofs.Ythcgibpiogmmdai

/-
  A hierarchy's marks, held.
-/
set_option linter.unusedVariables false
set_option linter.unusedSimpArgs false
namespace Go.Proofs.Ythcgibpiogmmdai
open Go.RowKit
attribute [local go_sem ↓] Go.wp_at_zero Go.wp_at_succ

set_option maxHeartbeats 1000000 in
theorem heldHier_any (b c k m pcap ecap : Nat) (q : Int) (hq0 : 0 ≤ q) (hq1 : q + (k : Int) ≤ 4000000) (hk : k ≤ 1048576) (hm : m ≤ 1048576) (w : World) (hi : 0 < k → IHas w b k (mki q)) (he : 0 < m → EHas w c m (mke (q + k))) (po : Option Addr) (hpo : 0 < k → po = some ⟨b, 0, none⟩) (eo : Option Addr) (heo : 0 < m → eo = some ⟨c, 0, none⟩) :
    Calls Try.prog 42 #[.agg #[.slice po k pcap, .slice eo m ecap], .int .i64 q] w fun e w' => e = .returned (.int .i64 (q + k + 2 * m)) ∧ Below w.heap.size w w' := by
  have hal := (Below.refl w.heap.size w).alloc (Nat.le_refl _) (.cells #[.slice po k pcap, .slice eo m ecap] 41)
  have hq3 : 0 ≤ q + (k : Int) := by omega
  have hq4 : q + (k : Int) ≤ 4000000 := by omega
  have hq5 : ¬ q + (k : Int) < 0 := by omega
  have hq6 : ¬ q + (k : Int) + 2 * (m : Int) < 0 := by omega
  go_enter Try.func42, Try.ntmps42
  go_wp2_with (first | (go_at_call 69; refine (heldInt64S_any b k pcap q hq0 (by omega) hk _ (fun h => (hi h).below hal (hi h).lt) po hpo).mono ?_; rintro e w1 ⟨rfl, hq⟩; have hq' := hq.symm; subst hq'; clear hq) | (go_at_call 70; refine (heldEdgeS_any c m ecap (q + k) hq3 hq4 hm _ (fun h => (he h).below hal (he h).lt) eo heo).mono ?_; rintro e w1 ⟨rfl, hq⟩; have hq' := hq.symm; subst hq'; clear hq))
  go_ret
  exact ⟨rfl, hal⟩

end Go.Proofs.Ythcgibpiogmmdai

/-
  The laws' own comparison: two maps with the same places and arcs are told alike.
-/
set_option linter.unusedVariables false
set_option linter.unusedSimpArgs false
namespace Go.Proofs.Ythcgibpiogmmdai
open Go.RowKit
attribute [local go_sem ↓] Go.wp_at_zero Go.wp_at_succ

theorem eqArc_same (f t g : Int) (w : World) :
    Calls Try.prog 54 #[.agg #[.int .i64 f, .int .i64 t, .int .i64 g], .agg #[.int .i64 f, .int .i64 t, .int .i64 g]] w fun e w' => e = .returned (.bool true) ∧ Below w.heap.size w w' := by
  go_enter Try.func54, Try.ntmps54
  go_wp2
  go_ret
  exact ⟨rfl, ((Below.refl _ _).alloc (Nat.le_refl _) _).alloc (by simp) _⟩

set_option maxHeartbeats 800000 in
theorem eqArcS_same (ao ao' : Option Addr) (n cap cap' : Nat) (F T G : Nat → Int) (hn : n ≤ 1048576) (w : World) (hr : Row w ao n F T G) (hr' : Row w ao' n F T G) :
    Calls Try.prog 29 #[.slice ao n cap, .slice ao' n cap'] w fun e w' => e = .returned (.bool true) ∧ Below w.heap.size w w' := by
  go_enter Try.func29, Try.ntmps29
  go_wp2
  go_loopw [5] (fun i wr => ∃ k : Nat, k ≤ n ∧ i = .int .i64 k ∧ Below w.heap.size w wr) (fun i _ => n - (intOf i).toNat)
  case atStart => exact ⟨0, Nat.zero_le _, rfl, Below.refl _ _⟩
  case round =>
    obtain ⟨k, hk, rfl, hbel⟩ := hrel
    by_cases hlt : k < n
    rotate_left
    · have hkn : k = n := by omega
      subst hkn
      go_wp2
      go_ret
      exact ⟨rfl, hbel⟩
    obtain ⟨b, o, hao, c0, c1, c2⟩ := (hr.below hbel (Nat.le_refl _)) k hlt
    obtain ⟨b', o', hao', d0, d1, d2⟩ := (hr'.below hbel (Nat.le_refl _)) k hlt
    subst hao
    subst hao'
    have hk1 : (0 : Int) ≤ (k : Int) := by omega
    have hk2 : (k : Int) < (n : Int) := by omega
    go_wp2
    go_region_held3 (fun w' => w'.cell? ⟨b, o + k * 3, none⟩ = some (.int .i64 (F k)) ∧ w'.cell? ⟨b, o + k * 3 + 1, none⟩ = some (.int .i64 (T k)) ∧ w'.cell? ⟨b, o + k * 3 + 2, none⟩ = some (.int .i64 (G k)) ∧ w'.cell? ⟨b', o' + k * 3, none⟩ = some (.int .i64 (F k)) ∧ w'.cell? ⟨b', o' + k * 3 + 1, none⟩ = some (.int .i64 (T k)) ∧ w'.cell? ⟨b', o' + k * 3 + 2, none⟩ = some (.int .i64 (G k)))
        (first | (go_split_ands; refine ⟨?_, ?_, ?_, ?_, ?_, ?_⟩ <;> exact keep_cell ‹_› (Nat.le_refl _) (by assumption)) | go_keep)
        (first | (go_at_call 54; refine (eqArc_same _ _ _ _).mono ?_; rintro e w2 ⟨rfl, hb2⟩))
    go_wp2
    go_roundw
    case rel => exact ⟨k + 1, by omega, by go_num, below_next hbel.drew (Nat.le_refl _) hb2⟩
    case measure => simp [intOf]; omega

set_option maxHeartbeats 800000 in
theorem eqGraph_same (p : Int) (ao ao' : Option Addr) (n cap cap' : Nat) (F T G : Nat → Int) (hn : n ≤ 1048576) (w : World) (hr : Row w ao n F T G) (hr' : Row w ao' n F T G) :
    Calls Try.prog 16 #[.agg #[.int .i64 p, .slice ao n cap], .agg #[.int .i64 p, .slice ao' n cap']] w fun e w' => e = .returned (.bool true) ∧ Below w.heap.size w w' := by
  go_enter Try.func16, Try.ntmps16
  go_wp2_with (go_at_call 29; refine (eqArcS_same ao ao' n cap cap' F T G hn _ ((hr.alloc _).alloc _) ((hr'.alloc _).alloc _)).mono ?_; rintro e w1 ⟨rfl, hb1⟩)
  go_ret
  exact ⟨rfl, below_next (((Below.refl _ _).alloc (Nat.le_refl _) _).alloc (by simp) _) (Nat.le_refl _) hb1⟩

end Go.Proofs.Ythcgibpiogmmdai

/-
  What the laws' own helpers of chapter 1 do: the size that is counted, the copies that are made. For every list of at most 2^20 arcs.
-/
set_option linter.unusedVariables false
set_option linter.unusedSimpArgs false
namespace Go.Proofs.Ythcgibpiogmmdai
open Go.RowKit

theorem toArc_any (f t g : Int) (w : World) :
    Calls Try.prog 51 #[.agg #[.int .i64 f, .int .i64 t, .int .i64 g]] w fun e w' => e = .returned (.agg #[.int .i64 f, .int .i64 t, .int .i64 g]) ∧ Below w.heap.size w w' := by
  go_enter Try.func51, Try.ntmps51
  go_wp2
  simp [bodyPost, results, Try.results51, go_sem]
  exact (((Below.refl _ _).alloc (Nat.le_refl _) _).alloc (by simp) _).alloc (by simp; omega) _

set_option maxHeartbeats 400000 in
theorem toArcS_any (ao : Option Addr) (n cap : Nat) (F T G : Nat → Int) (hn : n ≤ 1048576) (w : World) (hr : Row w ao n F T G) :
    Calls Try.prog 27 #[.slice ao n cap] w fun e w' => e = .returned (.slice (some ⟨w.heap.size, 0, none⟩) n n) ∧ Own w' w.heap.size n (ar F T G) ∧ Below w.heap.size w w' := by
  have hmk := make_arcs n hn
  go_enter Try.func27, Try.ntmps27
  go_wp2
  clear hmk
  go_loopw [4] (fun i wr => ∃ k : Nat, k ≤ n ∧ i = .int .i64 k ∧ Own wr w.heap.size n (upto (ar F T G) (k * 3)) ∧ Below w.heap.size w wr) (fun i _ => n - (intOf i).toNat)
  case atStart => exact ⟨0, Nat.zero_le _, rfl, made_own w n _, (Below.refl _ _).alloc (Nat.le_refl _) _⟩
  case round =>
    obtain ⟨k, hk, rfl, hown, hbel⟩ := hrel
    by_cases hlt : k < n
    · obtain ⟨b, o, hao, c0, c1, c2⟩ := (hr.below hbel (Nat.le_refl _)) k hlt
      subst hao
      go_wp2_with (go_at_call 51; refine (toArc_any (F k) (T k) (G k) _).mono ?_; rintro e w1 ⟨rfl, hb1⟩; have d0 := World.rowIs.cell (hown.below hb1) (i := k * 3) (by omega); have d1 := World.rowIs.cell (hown.below hb1) (i := k * 3 + 1) (by omega); have d2 := World.rowIs.cell (hown.below hb1) (i := k * 3 + 2) (by omega); have z0 := World.rowIs.frozen (hown.below hb1) (k * 3); have z1 := World.rowIs.frozen (hown.below hb1) (k * 3 + 1); have z2 := World.rowIs.frozen (hown.below hb1) (k * 3 + 2))
      have R := (hown.below hb1).three hlt
      have S := hbel.trans (hb1.mono hbel.size)
      clear d0 d1 d2 z0 z1 z2 hown hb1 hbel
      go_roundw
      case rel => exact ⟨k + 1, by omega, by go_num, R, ((S.setCell (Nat.le_refl _) _).setCell (Nat.le_refl _) _).setCell (Nat.le_refl _) _⟩
      case measure => simp [intOf]; omega
    · have hkn : k = n := by omega
      subst hkn
      go_wp2
      go_ret
      exact ⟨rfl, World.rowIs.congr hown (fun j hj => by simp [upto, hj]), hbel⟩

/-- A copy of a map: its arcs in new memory of the call's own. -/
theorem toGraph_any (p : Int) (ao : Option Addr) (n cap : Nat) (F T G : Nat → Int) (hn : n ≤ 1048576) (w : World) (hr : Row w ao n F T G) :
    Calls Try.prog 13 #[.agg #[.int .i64 p, .slice ao n cap]] w fun e w' => ∃ b, e = .returned (.agg #[.int .i64 p, .slice (some ⟨b, 0, none⟩) n n]) ∧ w.heap.size ≤ b ∧ Own w' b n (ar F T G) ∧ Below w.heap.size w w' := by
  go_enter Try.func13, Try.ntmps13
  go_wp2_with (go_at_call 27; refine (toArcS_any ao n cap F T G hn _ (((hr.alloc _).alloc _).alloc _)).mono ?_; rintro e w1 ⟨rfl, hown, hb1⟩; obtain ⟨hc, hf⟩ := bcell hb1; have hz : w.heap.size + 2 < w1.heap.size := by have := hb1.size; simp at this; omega)
  simp [bodyPost, results, Try.results13, go_sem, hc, hz]
  have hown' : Own w1 (w.heap.size + 1 + 1 + 1) n (ar F T G) := by simpa using hown
  refine ⟨by omega, World.rowIs.setOther (World.rowIs.setOther (World.rowIs.setOther hown' (by simp) _) (by simp; omega) _) (by simp; omega) _, ?_⟩
  exact (((((((Below.refl _ _).alloc (Nat.le_refl _) _).alloc (by simp) _).alloc (by simp; omega) _).trans (hb1.mono (by simp; omega))).setCell (by simp; omega) _).setCell (by simp) _).setCell (by simp) _

theorem szArcS_in (ao : Option Addr) (n cap : Nat) (l : Int) (h0 : (n : Int) ≤ l) (hl : l ≤ 1048576) (w : World) :
    Calls Try.prog 24 #[.slice ao n cap, .int .i64 l] w fun e w' => e = .returned (.int .i64 (l - n)) ∧ w' = w := by
  go_enter Try.func24, Try.ntmps24
  go_wp2
  go_ret
  exact ⟨rfl, rfl⟩
theorem szArcS_out (ao : Option Addr) (n cap : Nat) (l : Int) (h0 : l < (n : Int)) (h1 : 0 ≤ l) (hl : l ≤ 1048576) (hn : n ≤ 9223372036854775807) (w : World) :
    Calls Try.prog 24 #[.slice ao n cap, .int .i64 l] w fun e w' => e = .returned (.int .i64 (-1)) ∧ w' = w := by
  go_enter Try.func24, Try.ntmps24
  go_wp2
  go_ret
  exact ⟨rfl, rfl⟩
theorem szGraph_in (p : Int) (ao : Option Addr) (n cap : Nat) (l : Int) (h0 : (n : Int) ≤ l) (hl : l ≤ 1048576) (w : World) :
    Calls Try.prog 11 #[.agg #[.int .i64 p, .slice ao n cap], .int .i64 l] w fun e w' => e = .returned (.int .i64 (l - n)) ∧ Below w.heap.size w w' := by
  go_enter Try.func11, Try.ntmps11
  go_wp2_with (go_at_call 24; refine (szArcS_in ao n cap l h0 hl _).mono ?_; rintro e w1 ⟨rfl, rfl⟩)
  go_ret
  exact ⟨rfl, (Below.refl _ _).alloc (Nat.le_refl _) _⟩
theorem szGraph_out (p : Int) (ao : Option Addr) (n cap : Nat) (l : Int) (h0 : l < (n : Int)) (h1 : 0 ≤ l) (hl : l ≤ 1048576) (hn : n ≤ 9223372036854775807) (w : World) :
    Calls Try.prog 11 #[.agg #[.int .i64 p, .slice ao n cap], .int .i64 l] w fun e w' => e = .returned (.int .i64 (-1)) ∧ Below w.heap.size w w' := by
  go_enter Try.func11, Try.ntmps11
  go_wp2_with (go_at_call 24; refine (szArcS_out ao n cap l h0 h1 hl hn _).mono ?_; rintro e w1 ⟨rfl, rfl⟩)
  go_ret
  exact ⟨rfl, (Below.refl _ _).alloc (Nat.le_refl _) _⟩

end Go.Proofs.Ythcgibpiogmmdai

/-
  What the reading of an argument says of its memory: a list of arcs that came in lies behind its address, three numbers an arc.
-/
set_option linter.unusedVariables false
set_option linter.unusedSimpArgs false
namespace Go.Proofs.Ythcgibpiogmmdai
open Go.ChangeShapes Go.WideShapes Go.ChangeAt Go.RowKit Go.Deep Go.Joins

theorem Try.cellsLArc : Try.prog.cellsOf 86 = 3 := by kernel_rfl
theorem Try.cellsLGraph : Try.prog.cellsOf 34 = 2 := by kernel_rfl

set_option maxRecDepth 100000 in
theorem open_arcs {H : Type} {enc : TypeId × Value → H} {w : World} {base : Nat} {spare : Nat → Bool} {held : Bool} {fuel : Nat} {cs : List Value} {x : DataW H × List MemPlace}
    (h : DataW.trod enc Try.prog w base spare held fuel 22 cs = some x) :
    ∃ (ao : Option Addr) (n cap : Nat) (F T G : Nat → Int), cs = [.slice ao n cap] ∧ n ≤ maxLen ∧ Row w ao n F T G := by
  rcases open_slice Try.underlying22 h with ⟨rfl, _⟩ | ⟨a, len, cap, m, n, D, Pl, rfl, hb, hl, hm, hmm, _, hx⟩
  · exact ⟨none, 0, 0, fun _ => 0, fun _ => 0, fun _ => 0, rfl, Nat.zero_le _, fun k hk => by omega⟩
  have hlm : len ≤ m := by rw [hmm]; split <;> omega
  have each : ∀ i, i < len → ∃ q : Int × Int × Int, w.cell? (a.add (i * 3)) = some (.int .i64 q.1) ∧ w.cell? (a.add (i * 3 + 1)) = some (.int .i64 q.2.1) ∧ w.cell? (a.add (i * 3 + 2)) = some (.int .i64 q.2.2) := by
    intro i hi
    obtain ⟨cs', h1, h2⟩ := hx i (by omega)
    rw [Try.cellsLArc] at h1
    obtain ⟨_, hlen, hcell⟩ := World.cells?_some h1
    obtain ⟨y0, y1, y2, n', _, _, g0, g1, g2⟩ := trod_struct3 Try.underlying86 h2
    match cs', hlen with
    | [v0, v1, v2], _ =>
      simp [Try.cellsInt] at g0 g1 g2
      obtain ⟨q0, r0, _⟩ := DataW.trod_int Try.underlying2 g0
      obtain ⟨q1, r1, _⟩ := DataW.trod_int Try.underlying2 g1
      obtain ⟨q2, r2, _⟩ := DataW.trod_int Try.underlying2 g2
      have e0 := hcell 0 (by omega)
      have e1 := hcell 1 (by omega)
      have e2 := hcell 2 (by omega)
      rw [add_add] at e0 e1 e2
      simp at r0 r1 r2
      subst r0 r1 r2
      exact ⟨(q0, q1, q2), by simpa using e0, by simpa using e1, by simpa using e2⟩
  obtain ⟨f, hf⟩ := choose_lt each
  refine ⟨some a, len, cap, fun i => (f i).1, fun i => (f i).2.1, fun i => (f i).2.2, rfl, by omega, fun k hk => ?_⟩
  obtain ⟨b, o, spot⟩ := a
  have hspot : spot = none := by
    have := World.cell?_spot (hf 0 (by omega)).1
    simpa [Addr.add] using this
  subst hspot
  have := hf k hk
  rw [Addr.add_mid, Addr.add_mid, Addr.add_mid] at this
  exact ⟨b, o, rfl, this.1, by simpa [Nat.add_assoc] using this.2.1, by simpa [Nat.add_assoc] using this.2.2⟩

end Go.Proofs.Ythcgibpiogmmdai

/-
  What the exact laws' own helpers do with arcs and maps of the law's own: each number is marked.
-/
set_option linter.unusedVariables false
set_option linter.unusedSimpArgs false
namespace Go.Proofs.Ythcgibpiogmmdai
open Go.RowKit Go.Maps

set_option maxHeartbeats 1000000 in
theorem markArcS_any (b n cap : Nat) (f : Nat → Int) (k : Int) (hk0 : 0 ≤ k) (hk1 : k ≤ 4000000) (hn : n ≤ 1048576) (w : World) (h : 0 < n → Has w b n f) (ao : Option Addr) (hao : 0 < n → ao = some ⟨b, 0, none⟩) :
    Calls Try.prog 38 #[.slice ao n cap, .int .i64 k] w fun e w' => e = .returned (.int .i64 (k + 3 * n)) ∧ (0 < n → Has w' b n (mk k)) ∧ w.grownBy w' (some b) := by
  go_enter Try.func38, Try.ntmps38
  go_wp2
  go_loopw [1, 5] (fun q i wr => ∃ m : Nat, m ≤ n ∧ i = .int .i64 m ∧ q = .int .i64 (k + 3 * m) ∧ (0 < n → Has wr b n (fun j => if j < 3 * m then mk k j else f j)) ∧ w.grownBy wr (some b)) (fun _ i _ => n - (intOf i).toNat)
  case atStart => exact ⟨0, Nat.zero_le _, rfl, by simp, fun hp => (h hp).congr (fun j _ => by simp), World.grownBy.refl _ _⟩
  case round =>
    obtain ⟨m, hm, rfl, rfl, hh, hg⟩ := hrel
    by_cases hlt : m < n
    rotate_left
    · have e : m = n := by omega
      subst e
      go_wp2
      go_ret
      exact ⟨rfl, fun hp => (hh hp).congr (fun j hj => by rw [if_pos (by omega)]), hg⟩
    obtain rfl := hao (by omega)
    have HH := hh (by omega)
    have d0 := HH.cell (j := m * 3) (by omega)
    have d1 := HH.cell (j := m * 3 + 1) (by omega)
    have d2 := HH.cell (j := m * 3 + 2) (by omega)
    have z0 := HH.frozen (m * 3)
    have z1 := HH.frozen (m * 3 + 1)
    have z2 := HH.frozen (m * 3 + 2)
    have R := ((HH.set (m * 3) (k + 3 * m)).set (m * 3 + 1) (k + 3 * m + 1)).set (m * 3 + 2) (k + 3 * m + 1 + 1)
    have S := ((hg.trans (grown_setCell _ b (m * 3) (.int .i64 (k + 3 * m)))).trans (grown_setCell _ b (m * 3 + 1) (.int .i64 (k + 3 * m + 1)))).trans (grown_setCell _ b (m * 3 + 2) (.int .i64 (k + 3 * m + 1 + 1)))
    clear HH hh
    go_wp2
    go_roundw
    case rel =>
      refine ⟨m + 1, by omega, by go_num, by go_num, fun _ => R.congr (fun j hj => ?_), S⟩
      by_cases e2 : j = m * 3 + 2
      · subst e2; simp [mk]; omega
      by_cases e1 : j = m * 3 + 1
      · subst e1; simp [mk]; omega
      by_cases e0 : j = m * 3
      · subst e0; simp [mk]; omega
      simp only [if_neg e2, if_neg e1, if_neg e0]
      by_cases hl : j < 3 * m
      · rw [if_pos hl, if_pos (by omega)]
      · rw [if_neg hl, if_neg (by omega)]
    case measure => simp [intOf]; omega

attribute [local go_sem ↓] Go.wp_at_zero Go.wp_at_succ

theorem markGraph_any (p : Int) (b n cap : Nat) (f : Nat → Int) (k : Int) (hk0 : 0 ≤ k) (hk1 : k ≤ 4000000) (hn : n ≤ 1048576) (w : World) (h : 0 < n → Has w b n f) (ao : Option Addr) (hao : 0 < n → ao = some ⟨b, 0, none⟩) :
    Calls Try.prog 17 #[.agg #[.int .i64 p, .slice ao n cap], .int .i64 k] w fun e w' => e = .returned (.int .i64 (k + 3 * n)) ∧ (0 < n → Has w' b n (mk k)) ∧ w.grownBy w' (some b) := by
  go_enter Try.func17, Try.ntmps17
  go_wp2_with (go_at_call 38; refine (markArcS_any b n cap f k hk0 hk1 hn _ (fun hp => (h hp).below ((Below.refl w.heap.size w).alloc (Nat.le_refl _) _) (h hp).lt) ao hao).mono ?_; rintro e w1 ⟨rfl, hh, hg⟩)
  go_ret
  exact ⟨rfl, hh, grown_unbox hg⟩

end Go.Proofs.Ythcgibpiogmmdai

/-
  The look whether an answer's marks are still held.
-/
set_option linter.unusedVariables false
set_option linter.unusedSimpArgs false
namespace Go.Proofs.Ythcgibpiogmmdai
open Go.RowKit Go.Maps
attribute [local go_sem ↓] Go.wp_at_zero Go.wp_at_succ

set_option maxHeartbeats 1000000 in
theorem heldArcS_any (b n cap : Nat) (k : Int) (hk0 : 0 ≤ k) (hk1 : k ≤ 4000000) (hn : n ≤ 1048576) (w : World) (h : 0 < n → Has w b n (mk k)) (ao : Option Addr) (hao : 0 < n → ao = some ⟨b, 0, none⟩) :
    Calls Try.prog 68 #[.slice ao n cap, .int .i64 k] w fun e w' => e = .returned (.int .i64 (k + 3 * n)) ∧ w' = w := by
  go_enter Try.func68, Try.ntmps68
  go_wp2
  go_loop [1, 5] (fun q i => ∃ m : Nat, m ≤ n ∧ i = .int .i64 m ∧ q = .int .i64 (k + 3 * m)) (fun _ i => n - (intOf i).toNat)
  case atStart => exact ⟨0, Nat.zero_le _, rfl, by simp⟩
  case round =>
    obtain ⟨m, hm, rfl, rfl⟩ := hrel
    by_cases hlt : m < n
    rotate_left
    · have e : m = n := by omega
      subst e
      go_wp2
      go_ret
      exact ⟨rfl, rfl⟩
    obtain rfl := hao (by omega)
    have HH := h (by omega)
    have d0 : w.cell? ⟨b, m * 3, none⟩ = some (.int .i64 (k + 3 * m)) := by
      rw [HH.cell (by omega)]; simp [mk]; omega
    have d1 : w.cell? ⟨b, m * 3 + 1, none⟩ = some (.int .i64 (k + 3 * m + 1)) := by
      rw [HH.cell (by omega)]; simp [mk]; omega
    have d2 : w.cell? ⟨b, m * 3 + 2, none⟩ = some (.int .i64 (k + 3 * m + 1 + 1)) := by
      rw [HH.cell (by omega)]; simp [mk]; omega
    clear HH
    go_wp2
    go_round
    case rel => exact ⟨m + 1, by omega, by go_num, by go_num⟩
    case measure => simp [intOf]; omega

theorem heldGraph_any (p : Int) (b n cap : Nat) (k : Int) (hk0 : 0 ≤ k) (hk1 : k ≤ 4000000) (hn : n ≤ 1048576) (w : World) (h : 0 < n → Has w b n (mk k)) (ao : Option Addr) (hao : 0 < n → ao = some ⟨b, 0, none⟩) :
    Calls Try.prog 41 #[.agg #[.int .i64 p, .slice ao n cap], .int .i64 k] w fun e w' => e = .returned (.int .i64 (k + 3 * n)) ∧ Below w.heap.size w w' := by
  go_enter Try.func41, Try.ntmps41
  go_wp2_with (go_at_call 68; refine (heldArcS_any b n cap k hk0 hk1 hn _ (fun hp => (h hp).below ((Below.refl w.heap.size w).alloc (Nat.le_refl _) _) (h hp).lt) ao hao).mono ?_; rintro e w1 ⟨rfl, rfl⟩)
  go_ret
  exact ⟨rfl, (Below.refl _ _).alloc (Nat.le_refl _) _⟩

end Go.Proofs.Ythcgibpiogmmdai

/-
  The exact law's helpers for a service without answers: whether two are alike, marks, and whether they are held.
-/
set_option linter.unusedVariables false
set_option linter.unusedSimpArgs false
namespace Go.Proofs.Ythcgibpiogmmdai
open Go.ChangeShapes Go.WideShapes Go.ChangeAt Go.RowKit Go.Deep Go.Joins
attribute [local go_sem ↓] Go.wp_at_zero Go.wp_at_succ

theorem eqStringS_zero (w : World) : Calls Try.prog 37 #[.slice none 0 0, .slice none 0 0] w fun e w' => e = .returned (.bool true) ∧ Below w.heap.size w w' := by
  go_enter Try.func37, Try.ntmps37
  go_wp2
  go_loopw [5] (fun i wr => i = .int .i64 0 ∧ wr = w) (fun i _ => 0)
  case atStart => exact ⟨rfl, rfl⟩
  case round =>
    obtain ⟨rfl, rfl⟩ := hrel
    go_wp2
    go_ret
    exact ⟨rfl, Below.refl _ _⟩
theorem markStringS_zero (k : Int) (w : World) : Calls Try.prog 40 #[.slice none 0 0, .int .i64 k] w fun e w' => e = .returned (.int .i64 k) ∧ w' = w := by
  go_enter Try.func40, Try.ntmps40
  go_wp2
  go_loopw [1, 5] (fun q i wr => q = .int .i64 k ∧ i = .int .i64 0 ∧ wr = w) (fun _ i _ => 0)
  case atStart => exact ⟨rfl, rfl, rfl⟩
  case round =>
    obtain ⟨rfl, rfl, rfl⟩ := hrel
    go_wp2
    go_ret
    exact ⟨rfl, rfl⟩
theorem heldStringS_zero (k : Int) (w : World) : Calls Try.prog 43 #[.slice none 0 0, .int .i64 k] w fun e w' => e = .returned (.int .i64 k) ∧ w' = w := by
  go_enter Try.func43, Try.ntmps43
  go_wp2
  go_loopw [1, 5] (fun q i wr => q = .int .i64 k ∧ i = .int .i64 0 ∧ wr = w) (fun _ i _ => 0)
  case atStart => exact ⟨rfl, rfl, rfl⟩
  case round =>
    obtain ⟨rfl, rfl, rfl⟩ := hrel
    go_wp2
    go_ret
    exact ⟨rfl, rfl⟩

set_option maxHeartbeats 2000000 in
theorem eqService_same (p : Int) (ao po eo ao' po' eo' : Option Addr) (n cap cap' M pc pc' N ec ec' : Nat) (F T G D L H : Nat → Int) (hn : n ≤ 1048576) (hM : M ≤ 1048576) (hN : N ≤ 1048576) (w : World)
    (h1 : Row w ao n F T G) (h2 : Row w ao' n F T G) (i1 : IRow w po M D) (i2 : IRow w po' M D) (e1 : ERow w eo N L H) (e2 : ERow w eo' N L H) :
    Calls Try.prog 15 #[.agg #[.int .i64 p, .slice ao n cap, .slice po M pc, .slice eo N ec, .int .i64 0, .slice none 0 0], .agg #[.int .i64 p, .slice ao' n cap', .slice po' M pc', .slice eo' N ec', .int .i64 0, .slice none 0 0]] w fun e w' => e = .returned (.bool true) ∧ Below w.heap.size w w' := by
  have hA : Below w.heap.size w ((w.alloc (.cells #[.int .i64 p, .slice ao n cap, .slice po M pc, .slice eo N ec, .int .i64 0, .slice none 0 0] 44)).alloc (.cells #[.int .i64 p, .slice ao' n cap', .slice po' M pc', .slice eo' N ec', .int .i64 0, .slice none 0 0] 44)) := ((Below.refl _ _).alloc (Nat.le_refl _) _).alloc (by simp) _
  have v1 := (sv6_new w p (.slice ao n cap) (.slice po M pc) (.slice eo N ec) 0 (.slice none 0 0) 44).alloc (.cells #[.int .i64 p, .slice ao' n cap', .slice po' M pc', .slice eo' N ec', .int .i64 0, .slice none 0 0] 44)
  have v2 := sv6_new (w.alloc (.cells #[.int .i64 p, .slice ao n cap, .slice po M pc, .slice eo N ec, .int .i64 0, .slice none 0 0] 44)) p (.slice ao' n cap') (.slice po' M pc') (.slice eo' N ec') 0 (.slice none 0 0) 44
  simp only [World.size_alloc] at v2
  replace h1 := h1.below hA (Nat.le_refl _)
  replace h2 := h2.below hA (Nat.le_refl _)
  replace i1 := i1.below hA (Nat.le_refl _)
  replace i2 := i2.below hA (Nat.le_refl _)
  replace e1 := e1.below hA (Nat.le_refl _)
  replace e2 := e2.below hA (Nat.le_refl _)
  go_enter Try.func15, Try.ntmps15
  go_wp2_with fail
  generalize ((w.alloc (.cells #[.int .i64 p, .slice ao n cap, .slice po M pc, .slice eo N ec, .int .i64 0, .slice none 0 0] 44)).alloc (.cells #[.int .i64 p, .slice ao' n cap', .slice po' M pc', .slice eo' N ec', .int .i64 0, .slice none 0 0] 44)) = W at hA v1 v2 h1 h2 i1 i2 e1 e2 ⊢
  refine (eqGraph_same p ao ao' n cap cap' F T G hn _ h1 h2).mono ?_
  rintro e w1 ⟨rfl, hb1⟩
  replace v1 := v1.next hb1
  replace v2 := v2.next hb1
  replace i1 := i1.below hb1 (Nat.le_refl _)
  replace i2 := i2.below hb1 (Nat.le_refl _)
  replace e1 := e1.below hb1 (Nat.le_refl _)
  replace e2 := e2.below hb1 (Nat.le_refl _)
  replace hA := below_next hA (Nat.le_refl _) hb1
  have x2 : w1.cell? ⟨w.heap.size, 2, none⟩ = some (.slice po M pc) := v1.cell (j := 2) (by omega)
  have x3 : w1.cell? ⟨w.heap.size, 3, none⟩ = some (.slice eo N ec) := v1.cell (j := 3) (by omega)
  have y2 : w1.cell? ⟨w.heap.size + 1, 2, none⟩ = some (.slice po' M pc') := v2.cell (j := 2) (by omega)
  have y3 : w1.cell? ⟨w.heap.size + 1, 3, none⟩ = some (.slice eo' N ec') := v2.cell (j := 3) (by omega)
  clear hb1 h1 h2
  go_wp2_with fail
  refine (eqHier_same po po' M pc pc' D eo eo' N ec ec' L H hM hN _ i1 i2 e1 e2).mono ?_
  rintro e w2 ⟨rfl, hb2⟩
  replace v1 := v1.next hb2
  replace v2 := v2.next hb2
  replace hA := below_next hA (Nat.le_refl _) hb2
  clear x2 x3 y2 y3 hb2 i1 i2 e1 e2
  have x4 : w2.cell? ⟨w.heap.size, 4, none⟩ = some (.int .i64 0) := v1.cell (j := 4) (by omega)
  have x5 : w2.cell? ⟨w.heap.size, 5, none⟩ = some (.slice none 0 0) := v1.cell (j := 5) (by omega)
  have y4 : w2.cell? ⟨w.heap.size + 1, 4, none⟩ = some (.int .i64 0) := v2.cell (j := 4) (by omega)
  have y5 : w2.cell? ⟨w.heap.size + 1, 5, none⟩ = some (.slice none 0 0) := v2.cell (j := 5) (by omega)
  go_wp2_with fail
  refine (eqStringS_zero _).mono ?_
  rintro e w3 ⟨rfl, hb3⟩
  go_wp2
  go_ret
  exact ⟨rfl, below_next hA (Nat.le_refl _) hb3⟩

set_option maxHeartbeats 2000000 in
theorem markService_any (p : Int) (ao po eo : Option Addr) (n cap M pc N ec d b c : Nat) (f g h : Nat → Int) (k : Int) (hk0 : 0 ≤ k) (hk1 : k ≤ 10) (hM : M ≤ 1000) (hN : N ≤ 1000) (w : World) (s : SvL w ao po eo n M N d b c f g h)
    (hd : d < w.heap.size) (hb : b < w.heap.size) (hc : c < w.heap.size) (hne : 0 < n → d ≠ b ∧ d ≠ c) (hbc : b ≠ c) (hn1 : n ≤ 100000) :
    Calls Try.prog 18 #[.agg #[.int .i64 p, .slice ao n cap, .slice po M pc, .slice eo N ec, .int .i64 0, .slice none 0 0], .int .i64 k] w fun e w' => e = .returned (.int .i64 (k + 3 * n + M + 2 * N)) ∧ SvL w' ao po eo n M N d b c (mk k) (mki (k + 3 * n)) (mke (k + 3 * n + M)) ∧ Turns w w' [d, b, c] := by
  have hA := (Below.refl w.heap.size w).alloc (Nat.le_refl _) (.cells #[.int .i64 p, .slice ao n cap, .slice po M pc, .slice eo N ec, .int .i64 0, .slice none 0 0] 44)
  have v := sv6_new w p (.slice ao n cap) (.slice po M pc) (.slice eo N ec) 0 (.slice none 0 0) 44
  have s1 := s.next hA
  have hT := Turns.of_below hA (Nat.le_refl _) [d, b, c]
  go_enter Try.func18, Try.ntmps18
  go_wp2_with fail
  generalize (w.alloc (.cells #[.int .i64 p, .slice ao n cap, .slice po M pc, .slice eo N ec, .int .i64 0, .slice none 0 0] 44)) = W at hA v s1 hT ⊢
  have hsW := hA.size
  have hvl := v.lt
  obtain ⟨d', hd'⟩ : ∃ d', d' = if 0 < n then d else W.heap.size := ⟨_, rfl⟩
  have hd1 : 0 < n → d' = d := fun x => by rw [hd', if_pos x]
  have hdb : d' ≠ b ∧ d' ≠ c ∧ d' ≠ w.heap.size := by
    by_cases x : 0 < n
    · rw [hd1 x]; exact ⟨(hne x).1, (hne x).2, by omega⟩
    · rw [hd', if_neg x]; exact ⟨by omega, by omega, by omega⟩
  have hdS : ∀ k, k < w.heap.size → k ∉ [d, b, c] → k ≠ d' := fun k hk hx e => by
    by_cases x : 0 < n
    · rw [hd1 x] at e; subst e; simp at hx
    · rw [hd', if_neg x] at e; omega
  clear hd'
  refine (markGraph_any p d' n cap f k hk0 (by omega) (by omega) _ (fun x => by rw [hd1 x]; exact s1.ha x) ao (fun x => by rw [hd1 x]; exact s1.ea x)).mono ?_
  rintro e w1 ⟨rfl, ha1, hg1⟩
  replace v := v.grown hg1 (by simp; exact fun e => hdb.2.2 e.symm)
  have T1 := Turns.of_grown hg1
  have hs1 := hg1.size
  have x2 : w1.cell? ⟨w.heap.size, 2, none⟩ = some (.slice po M pc) := v.cell (j := 2) (by omega)
  have x3 : w1.cell? ⟨w.heap.size, 3, none⟩ = some (.slice eo N ec) := v.cell (j := 3) (by omega)
  have hi1 : 0 < M → IHas w1 b M g := fun x => T1.ihas (by simp; exact fun e => hdb.1 e.symm) (s1.hi x)
  have he1 : 0 < N → EHas w1 c N h := fun x => T1.ehas (by simp; exact fun e => hdb.2.1 e.symm) (s1.he x)
  have hT1 : Turns w w1 [d, b, c] := ⟨T1.os.trans hT.os, T1.tape.trans hT.tape, T1.output.trans hT.output, Nat.le_trans hT.size T1.size, fun k hk hx => (T1.block k (by omega) (by simp; exact hdS k hk hx)).trans (hT.block k hk hx)⟩
  clear hg1 hT
  go_wp2_with fail
  refine (markHier_any b c M N pc ec g h (k + 3 * n) (by omega) (by omega) (by omega) (by omega) _ hi1 he1 hbc po s.ei eo s.ee (by omega) (by omega)).mono ?_
  rintro e w2 ⟨rfl, hi2, he2, T2⟩
  replace v := v.of_block (T2.block w.heap.size v.lt (by simp; omega))
  have x5 : w2.cell? ⟨w.heap.size, 5, none⟩ = some (.slice none 0 0) := v.cell (j := 5) (by omega)
  clear x2 x3
  go_wp2_with fail
  refine (markStringS_zero _ _).mono ?_
  rintro e w3 ⟨rfl, rfl⟩
  go_wp2
  go_ret
  refine ⟨rfl, ⟨s.ea, fun x => ?_, s.ei, hi2, s.ee, he2⟩, hT1.trans (T2.more (by simp))⟩
  have := ha1 x
  rw [hd1 x] at this
  exact T2.has (by simp; exact ⟨(hne x).1, (hne x).2⟩) this
set_option maxHeartbeats 2000000 in
theorem heldService_any (p : Int) (ao po eo : Option Addr) (n cap M pc N ec d b c : Nat) (k : Int) (hk0 : 0 ≤ k) (hk1 : k ≤ 10) (hM : M ≤ 1000) (hN : N ≤ 1000) (w : World) (s : SvL w ao po eo n M N d b c (mk k) (mki (k + 3 * n)) (mke (k + 3 * n + M))) (hn1 : n ≤ 100000) :
    Calls Try.prog 19 #[.agg #[.int .i64 p, .slice ao n cap, .slice po M pc, .slice eo N ec, .int .i64 0, .slice none 0 0], .int .i64 k] w fun e w' => e = .returned (.int .i64 (k + 3 * n + M + 2 * N)) ∧ Below w.heap.size w w' := by
  have hA := (Below.refl w.heap.size w).alloc (Nat.le_refl _) (.cells #[.int .i64 p, .slice ao n cap, .slice po M pc, .slice eo N ec, .int .i64 0, .slice none 0 0] 44)
  have v := sv6_new w p (.slice ao n cap) (.slice po M pc) (.slice eo N ec) 0 (.slice none 0 0) 44
  have s1 := s.next hA
  go_enter Try.func19, Try.ntmps19
  go_wp2_with fail
  generalize (w.alloc (.cells #[.int .i64 p, .slice ao n cap, .slice po M pc, .slice eo N ec, .int .i64 0, .slice none 0 0] 44)) = W at hA v s1 ⊢
  refine (heldGraph_any p d n cap k hk0 (by omega) (by omega) _ s1.ha ao s1.ea).mono ?_
  rintro e w1 ⟨rfl, hb1⟩
  replace v := v.next hb1
  replace s1 := s1.next hb1
  replace hA := below_next hA (Nat.le_refl _) hb1
  have x2 : w1.cell? ⟨w.heap.size, 2, none⟩ = some (.slice po M pc) := v.cell (j := 2) (by omega)
  have x3 : w1.cell? ⟨w.heap.size, 3, none⟩ = some (.slice eo N ec) := v.cell (j := 3) (by omega)
  have k1 : ¬ k + 3 * (n : Int) < 0 := by omega
  clear hb1
  go_wp2_with fail
  refine (heldHier_any b c M N pc ec (k + 3 * n) (by omega) (by omega) (by omega) (by omega) _ s1.hi s1.he po s1.ei eo s1.ee).mono ?_
  rintro e w2 ⟨rfl, hb2⟩
  replace v := v.next hb2
  replace hA := below_next hA (Nat.le_refl _) hb2
  have x5 : w2.cell? ⟨w.heap.size, 5, none⟩ = some (.slice none 0 0) := v.cell (j := 5) (by omega)
  have k2 : ¬ k + 3 * (n : Int) + M + 2 * N < 0 := by omega
  clear x2 x3 hb2
  go_wp2_with fail
  refine (heldStringS_zero _ _).mono ?_
  rintro e w3 ⟨rfl, rfl⟩
  go_wp2
  go_ret
  exact ⟨rfl, hA⟩

end Go.Proofs.Ythcgibpiogmmdai
