/-
  Helpers, merged: HierLaw, MetIn, SvcT, RcBx, Pick, MetLaw, EqA, Eq, OpenA, Open, HasA, HasLaw, HeldA, Held, OpenHier, OpenMet.
-/
import Derived.Test.YtmnohgcjdhokdahPack8
import Derived.Test.YtmnohgcjdhokdahPack9
import Derived.Test.YtmnohgcjdhokdahPack1
import Derived.Deep.QuietTactic
import Derived.BigQuiet
import Derived.Deep.DrawnRows
/-
  The laws' helpers over hierarchies: measured, copied, held against each other, marked.
-/
set_option linter.unusedVariables false
set_option linter.unusedSimpArgs false
namespace Go.Proofs.Ytmnohgcjdhokdah
open Go.RowKit
attribute [local go_sem ↓] Go.wp_at_zero Go.wp_at_succ

theorem szInt64S_in (ao : Option Addr) (n cap : Nat) (l : Int) (h0 : (n : Int) ≤ l) (hl : l ≤ 1048576) (w : World) :
    Calls Try.prog 42 #[.slice ao n cap, .int .i64 l] w fun e w' => e = .returned (.int .i64 (l - n)) ∧ w' = w := by
  go_enter Try.func42, Try.ntmps42
  go_wp2
  go_ret
  exact ⟨rfl, rfl⟩
theorem szInt64S_out (ao : Option Addr) (n cap : Nat) (l : Int) (h0 : l < (n : Int)) (h1 : 0 ≤ l) (hl : l ≤ 1048576) (hn : n ≤ 9223372036854775807) (w : World) :
    Calls Try.prog 42 #[.slice ao n cap, .int .i64 l] w fun e w' => e = .returned (.int .i64 (-1)) ∧ w' = w := by
  go_enter Try.func42, Try.ntmps42
  go_wp2
  go_ret
  exact ⟨rfl, rfl⟩
theorem szHier_in (po : Option Addr) (k pcap : Nat) (eo : Option Addr) (m ecap : Nat) (l : Int) (h0 : (k : Int) + (m : Int) ≤ l) (hl : l ≤ 1048576) (w : World) :
    Calls Try.prog 9 #[.agg #[.slice po k pcap, .slice eo m ecap], .int .i64 l] w fun e w' => e = .returned (.int .i64 (l - k - m)) ∧ Below w.heap.size w w' := by
  have hkl : ¬ l - (k : Int) < 0 := by omega
  have hkm : ¬ l - (k : Int) - (m : Int) < 0 := by omega
  go_enter Try.func9, Try.ntmps9
  go_wp2_with (first | (go_at_call 42; refine (szInt64S_in po k pcap l (by omega) hl _).mono ?_; rintro e w1 ⟨rfl, rfl⟩) | (go_at_call 43; refine (szEdgeS_in eo m ecap (l - k) (by omega) (by omega) _).mono ?_; rintro e w1 ⟨rfl, rfl⟩))
  go_ret
  exact ⟨rfl, (Below.refl _ _).alloc (Nat.le_refl _) _⟩
theorem szHier_out (po : Option Addr) (k pcap : Nat) (eo : Option Addr) (m ecap : Nat) (l : Int) (h0 : l < (k : Int) + (m : Int)) (h1 : 0 ≤ l) (hl : l ≤ 1048576) (hk : k ≤ 9223372036854775807) (hm : m ≤ 9223372036854775807) (w : World) :
    Calls Try.prog 9 #[.agg #[.slice po k pcap, .slice eo m ecap], .int .i64 l] w fun e w' => e = .returned (.int .i64 (-1)) ∧ Below w.heap.size w w' := by
  by_cases hkl : l < (k : Int)
  · go_enter Try.func9, Try.ntmps9
    go_wp2_with (go_at_call 42; refine (szInt64S_out po k pcap l hkl h1 hl hk _).mono ?_; rintro e w1 ⟨rfl, rfl⟩)
    go_ret
    exact ⟨rfl, (Below.refl _ _).alloc (Nat.le_refl _) _⟩
  · have hkl' : ¬ l - (k : Int) < 0 := by omega
    go_enter Try.func9, Try.ntmps9
    go_wp2_with (first | (go_at_call 42; refine (szInt64S_in po k pcap l (by omega) hl _).mono ?_; rintro e w1 ⟨rfl, rfl⟩) | (go_at_call 43; refine (szEdgeS_out eo m ecap (l - k) (by omega) (by omega) (by omega) hm _).mono ?_; rintro e w1 ⟨rfl, rfl⟩))
    go_ret
    exact ⟨rfl, (Below.refl _ _).alloc (Nat.le_refl _) _⟩
set_option maxHeartbeats 1000000 in
theorem toHier_any (po : Option Addr) (k pcap : Nat) (P : Nat → Int) (eo : Option Addr) (m ecap : Nat) (L H : Nat → Int) (hk : k ≤ 1048576) (hm : m ≤ 1048576) (w : World) (hp : IRow w po k P) (he : ERow w eo m L H) :
    Calls Try.prog 12 #[.agg #[.slice po k pcap, .slice eo m ecap]] w fun e w' => ∃ b c, e = .returned (.agg #[.slice (some ⟨b, 0, none⟩) k k, .slice (some ⟨c, 0, none⟩) m m]) ∧ w.heap.size ≤ b ∧ b < c ∧ IHas w' b k P ∧ EHas w' c m (er L H) ∧ Below w.heap.size w w' := by
  go_enter Try.func12, Try.ntmps12
  go_wp2_with fail
  refine (toInt64S_any po k pcap P hk _ (((hp.alloc _).alloc _).alloc _)).mono ?_
  rintro e w1 ⟨rfl, hI1, hb1⟩
  obtain ⟨hc, hf⟩ := bcell hb1
  simp only [World.size_alloc] at hI1
  have hz : w.heap.size + 1 + 1 + 1 < w1.heap.size := hI1.lt
  have hB1 : Below w.heap.size w w1 := unbox (unbox (unbox hb1 (by simp)) (by simp)) (by simp)
  have c20 : w1.cell? ⟨w.heap.size + 1 + 1, 0, none⟩ = some (.slice none 0 0) := by rw [hc _ _ (by simp)]; simp [go_sem]
  have c21 : w1.cell? ⟨w.heap.size + 1 + 1, 1, none⟩ = some (.slice none 0 0) := by rw [hc _ _ (by simp)]; simp [go_sem]
  have c10 : w1.cell? ⟨w.heap.size + 1, 0, none⟩ = some (.slice none 0 0) := by rw [hc _ _ (by simp)]; simp [go_sem]
  have c11 : w1.cell? ⟨w.heap.size + 1, 1, none⟩ = some (.slice none 0 0) := by rw [hc _ _ (by simp)]; simp [go_sem]
  have f2 : ∀ o, w1.frozen? ⟨w.heap.size + 1 + 1, o, none⟩ = false := fun o => by rw [hf _ _ (by simp)]; simp [go_sem]
  have f1 : ∀ o, w1.frozen? ⟨w.heap.size + 1, o, none⟩ = false := fun o => by rw [hf _ _ (by simp)]; simp [go_sem]
  go_wp2_with fail
  have hB2 := hB1.setCell (p := ⟨w.heap.size + 1 + 1, 0, none⟩) (by simp; omega) (.slice (some ⟨w.heap.size + 1 + 1 + 1, 0, none⟩) k k)
  have hI2 := hI1.grown (gr_setCell w1 (w.heap.size + 1 + 1) 0 (.slice (some ⟨w.heap.size + 1 + 1 + 1, 0, none⟩) k k)) (by simp)
  have hz2 : (w1.setCell ⟨w.heap.size + 1 + 1, 0, none⟩ (.slice (some ⟨w.heap.size + 1 + 1 + 1, 0, none⟩) k k)).heap.size = w1.heap.size := by simp [World.setCell]
  refine (toEdgeS_any eo m ecap L H hm _ (he.below hB2 (Nat.le_refl _))).mono ?_
  rintro e w3 ⟨rfl, hE3, hb3⟩
  obtain ⟨hc3, hf3⟩ := bcell hb3
  rw [hz2] at hc3 hf3 hE3
  have d20 : w3.cell? ⟨w.heap.size + 1 + 1, 0, none⟩ = some (.slice (some ⟨w.heap.size + 1 + 1 + 1, 0, none⟩) k k) := by rw [hc3 _ _ (by omega)]; simp [go_sem, c20]
  have d21 : w3.cell? ⟨w.heap.size + 1 + 1, 1, none⟩ = some (.slice none 0 0) := by rw [hc3 _ _ (by omega)]; simp [go_sem, c21]
  have d10 : w3.cell? ⟨w.heap.size + 1, 0, none⟩ = some (.slice none 0 0) := by rw [hc3 _ _ (by omega)]; simp [go_sem, c10]
  have d11 : w3.cell? ⟨w.heap.size + 1, 1, none⟩ = some (.slice none 0 0) := by rw [hc3 _ _ (by omega)]; simp [go_sem, c11]
  have g2 : ∀ o, w3.frozen? ⟨w.heap.size + 1 + 1, o, none⟩ = false := fun o => by rw [hf3 _ _ (by omega)]; simp [go_sem, f2]
  have g1 : ∀ o, w3.frozen? ⟨w.heap.size + 1, o, none⟩ = false := fun o => by rw [hf3 _ _ (by omega)]; simp [go_sem, f1]
  have hI3 := hI2.below hb3 hI2.lt
  have hB3 := below_next hB2 (Nat.le_refl _) hb3
  have hz3 : w1.heap.size < w3.heap.size := hE3.lt
  clear hc hf hc3 hf3 c20 c21 c10 c11 f2 f1 hI1 hb1 hb3 hB1 hB2 hI2 hz2
  go_wp2
  have hI4 := ((hI3.grown (gr_setCell w3 (w.heap.size + 1 + 1) 1 (.slice (some ⟨w1.heap.size, 0, none⟩) m m)) (by simp)).grown (gr_setCell _ (w.heap.size + 1) 0 (.slice (some ⟨w.heap.size + 1 + 1 + 1, 0, none⟩) k k)) (by simp; omega)).grown (gr_setCell _ (w.heap.size + 1) 1 (.slice (some ⟨w1.heap.size, 0, none⟩) m m)) (by simp; omega)
  have hE4 := ((hE3.grown (gr_setCell w3 (w.heap.size + 1 + 1) 1 (.slice (some ⟨w1.heap.size, 0, none⟩) m m)) (by simp; omega)).grown (gr_setCell _ (w.heap.size + 1) 0 (.slice (some ⟨w.heap.size + 1 + 1 + 1, 0, none⟩) k k)) (by simp; omega)).grown (gr_setCell _ (w.heap.size + 1) 1 (.slice (some ⟨w1.heap.size, 0, none⟩) m m)) (by simp; omega)
  have hB4 := ((hB3.setCell (p := ⟨w.heap.size + 1 + 1, 1, none⟩) (by simp; omega) (.slice (some ⟨w1.heap.size, 0, none⟩) m m)).setCell (p := ⟨w.heap.size + 1, 0, none⟩) (by simp) (.slice (some ⟨w.heap.size + 1 + 1 + 1, 0, none⟩) k k)).setCell (p := ⟨w.heap.size + 1, 1, none⟩) (by simp) (.slice (some ⟨w1.heap.size, 0, none⟩) m m)
  have r0 : (((w3.setCell ⟨w.heap.size + 1 + 1, 1, none⟩ (.slice (some ⟨w1.heap.size, 0, none⟩) m m)).setCell ⟨w.heap.size + 1, 0, none⟩ (.slice (some ⟨w.heap.size + 1 + 1 + 1, 0, none⟩) k k)).setCell ⟨w.heap.size + 1, 1, none⟩ (.slice (some ⟨w1.heap.size, 0, none⟩) m m)).cell? ⟨w.heap.size + 1, 0, none⟩ = some (.slice (some ⟨w.heap.size + 1 + 1 + 1, 0, none⟩) k k) := by simp [go_sem, d10, d11]
  have r1 : (((w3.setCell ⟨w.heap.size + 1 + 1, 1, none⟩ (.slice (some ⟨w1.heap.size, 0, none⟩) m m)).setCell ⟨w.heap.size + 1, 0, none⟩ (.slice (some ⟨w.heap.size + 1 + 1 + 1, 0, none⟩) k k)).setCell ⟨w.heap.size + 1, 1, none⟩ (.slice (some ⟨w1.heap.size, 0, none⟩) m m)).cell? ⟨w.heap.size + 1, 1, none⟩ = some (.slice (some ⟨w1.heap.size, 0, none⟩) m m) := by simp [go_sem, d10, d11]
  generalize (((w3.setCell ⟨w.heap.size + 1 + 1, 1, none⟩ (.slice (some ⟨w1.heap.size, 0, none⟩) m m)).setCell ⟨w.heap.size + 1, 0, none⟩ (.slice (some ⟨w.heap.size + 1 + 1 + 1, 0, none⟩) k k)).setCell ⟨w.heap.size + 1, 1, none⟩ (.slice (some ⟨w1.heap.size, 0, none⟩) m m)) = W4 at hI4 hE4 hB4 r0 r1 ⊢
  simp [bodyPost, results, Try.results12, go_sem, r0, r1]
  exact ⟨_, _, ⟨rfl, rfl⟩, by omega, by omega, hI4, hE4, hB4⟩
set_option maxHeartbeats 1000000 in
theorem eqHier_same (po po' : Option Addr) (k pcap pcap' : Nat) (P : Nat → Int) (eo eo' : Option Addr) (m ecap ecap' : Nat) (L H : Nat → Int) (hk : k ≤ 1048576) (hm : m ≤ 1048576) (w : World) (hp : IRow w po k P) (hp' : IRow w po' k P) (he : ERow w eo m L H) (he' : ERow w eo' m L H) :
    Calls Try.prog 15 #[.agg #[.slice po k pcap, .slice eo m ecap], .agg #[.slice po' k pcap', .slice eo' m ecap']] w fun e w' => e = .returned (.bool true) ∧ Below w.heap.size w w' := by
  go_enter Try.func15, Try.ntmps15
  go_wp2_with fail
  refine (eqInt64S_same po po' k pcap pcap' P hk _ ((hp.alloc _).alloc _) ((hp'.alloc _).alloc _)).mono ?_
  rintro e w1 ⟨rfl, hb1⟩
  have hB1 : Below w.heap.size w w1 := unbox (unbox hb1 (by simp)) (by simp)
  have c01 := keep_cell hb1 (Nat.le_refl _) (b := w.heap.size) (o := 1) (by simp [go_sem]; rfl)
  have c11 := keep_cell hb1 (Nat.le_refl _) (b := w.heap.size + 1) (o := 1) (by simp [go_sem]; rfl)
  clear hb1
  go_wp2_with fail
  refine (eqEdgeS_same eo eo' m ecap ecap' L H hm _ (he.below hB1 (Nat.le_refl _)) (he'.below hB1 (Nat.le_refl _))).mono ?_
  rintro e w2 ⟨rfl, hb2⟩
  go_wp2
  go_ret
  exact ⟨rfl, below_next hB1 (Nat.le_refl _) hb2⟩
set_option maxHeartbeats 1000000 in
theorem markHier_any (b c k m pcap ecap : Nat) (f h : Nat → Int) (q : Int) (hq0 : 0 ≤ q) (hq1 : q + (k : Int) ≤ 4000000) (hk : k ≤ 1048576) (hm : m ≤ 1048576) (w : World) (hi : 0 < k → IHas w b k f) (he : 0 < m → EHas w c m h) (hbc : b ≠ c) (po : Option Addr) (hpo : 0 < k → po = some ⟨b, 0, none⟩) (eo : Option Addr) (heo : 0 < m → eo = some ⟨c, 0, none⟩) (hbl : b < w.heap.size) (hcl : c < w.heap.size) :
    Calls Try.prog 26 #[.agg #[.slice po k pcap, .slice eo m ecap], .int .i64 q] w fun e w' => e = .returned (.int .i64 (q + k + 2 * m)) ∧ (0 < k → IHas w' b k (mki q)) ∧ (0 < m → EHas w' c m (mke (q + k))) ∧ Turns w w' [b, c] := by
  go_enter Try.func26, Try.ntmps26
  go_wp2_with fail
  have hal := (Below.refl w.heap.size w).alloc (Nat.le_refl _) (.cells #[.slice po k pcap, .slice eo m ecap] 33)
  refine (markInt64S_any b k pcap f q hq0 (by omega) hk _ (fun h => (hi h).below hal (hi h).lt) po hpo).mono ?_
  rintro e w1 ⟨rfl, hi1, hg1⟩
  have c1 : w1.cell? ⟨w.heap.size, 1, none⟩ = some (.slice eo m ecap) := hg1.cell (by simp [go_sem]) (by simp; omega)
  have T1 : Turns w w1 [b, c] := (Turns.of_below hal (Nat.le_refl _) _).trans ((Turns.of_grown hg1).more (by simp))
  have he1 : 0 < m → EHas w1 c m h := fun x => ((he x).below hal (he x).lt).grown hg1 (by simp; omega)
  have hq3 : 0 ≤ q + (k : Int) := by omega
  have hq4 : q + (k : Int) ≤ 4000000 := by omega
  clear hg1
  go_wp2_with fail
  refine (markEdgeS_any c m ecap h (q + k) hq3 hq4 hm _ he1 eo heo).mono ?_
  rintro e w2 ⟨rfl, he2, hg2⟩
  go_wp2
  go_ret
  exact ⟨rfl, fun x => (hi1 x).grown hg2 (by simp; omega), he2, T1.trans ((Turns.of_grown hg2).more (by simp))⟩

end Go.Proofs.Ytmnohgcjdhokdah

/-
  The laws' helpers over metrics: measured, copied.
-/
set_option linter.unusedVariables false
set_option linter.unusedSimpArgs false
namespace Go.Proofs.Ytmnohgcjdhokdah
open Go.RowKit
attribute [local go_sem ↓] Go.wp_at_zero Go.wp_at_succ

theorem szMetric_in (po : Option Addr) (k pcap : Nat) (eo : Option Addr) (m ecap : Nat) (l : Int) (h0 : (k : Int) + (m : Int) ≤ l) (hl : l ≤ 1048576) (w : World) :
    Calls Try.prog 10 #[.agg #[.slice po k pcap, .slice eo m ecap], .int .i64 l] w fun e w' => e = .returned (.int .i64 (l - k - m)) ∧ Below w.heap.size w w' := by
  have hkl : ¬ l - (k : Int) < 0 := by omega
  have hkm : ¬ l - (k : Int) - (m : Int) < 0 := by omega
  go_enter Try.func10, Try.ntmps10
  go_wp2_with fail
  refine (szInt64S_in po k pcap l (by omega) hl _).mono ?_
  rintro e w1 ⟨rfl, rfl⟩
  go_wp2_with fail
  refine (szInt64S_in eo m ecap (l - k) (by omega) (by omega) _).mono ?_
  rintro e w1 ⟨rfl, rfl⟩
  go_wp2
  go_ret
  exact ⟨rfl, (Below.refl _ _).alloc (Nat.le_refl _) _⟩
theorem szMetric_out (po : Option Addr) (k pcap : Nat) (eo : Option Addr) (m ecap : Nat) (l : Int) (h0 : l < (k : Int) + (m : Int)) (h1 : 0 ≤ l) (hl : l ≤ 1048576) (hk : k ≤ 9223372036854775807) (hm : m ≤ 9223372036854775807) (w : World) :
    Calls Try.prog 10 #[.agg #[.slice po k pcap, .slice eo m ecap], .int .i64 l] w fun e w' => e = .returned (.int .i64 (-1)) ∧ Below w.heap.size w w' := by
  by_cases hkl : l < (k : Int)
  · go_enter Try.func10, Try.ntmps10
    go_wp2_with (go_at_call 42; refine (szInt64S_out po k pcap l hkl h1 hl hk _).mono ?_; rintro e w1 ⟨rfl, rfl⟩)
    go_ret
    exact ⟨rfl, (Below.refl _ _).alloc (Nat.le_refl _) _⟩
  · have hkl' : ¬ l - (k : Int) < 0 := by omega
    go_enter Try.func10, Try.ntmps10
    go_wp2_with fail
    refine (szInt64S_in po k pcap l (by omega) hl _).mono ?_
    rintro e w1 ⟨rfl, rfl⟩
    go_wp2_with fail
    refine (szInt64S_out eo m ecap (l - k) (by omega) (by omega) (by omega) hm _).mono ?_
    rintro e w1 ⟨rfl, rfl⟩
    go_wp2
    go_ret
    exact ⟨rfl, (Below.refl _ _).alloc (Nat.le_refl _) _⟩
set_option maxHeartbeats 1000000 in
theorem toMetric_any (po : Option Addr) (k pcap : Nat) (P : Nat → Int) (eo : Option Addr) (m ecap : Nat) (D : Nat → Int) (hk : k ≤ 1048576) (hm : m ≤ 1048576) (w : World) (hp : IRow w po k P) (he : IRow w eo m D) :
    Calls Try.prog 13 #[.agg #[.slice po k pcap, .slice eo m ecap]] w fun e w' => ∃ b c, e = .returned (.agg #[.slice (some ⟨b, 0, none⟩) k k, .slice (some ⟨c, 0, none⟩) m m]) ∧ w.heap.size ≤ b ∧ b < c ∧ IHas w' b k P ∧ IHas w' c m D ∧ Below w.heap.size w w' := by
  go_enter Try.func13, Try.ntmps13
  go_wp2_with fail
  refine (toInt64S_any po k pcap P hk _ (((hp.alloc _).alloc _).alloc _)).mono ?_
  rintro e w1 ⟨rfl, hI1, hb1⟩
  obtain ⟨hc, hf⟩ := bcell hb1
  simp only [World.size_alloc] at hI1
  have hz : w.heap.size + 1 + 1 + 1 < w1.heap.size := hI1.lt
  have hB1 : Below w.heap.size w w1 := unbox (unbox (unbox hb1 (by simp)) (by simp)) (by simp)
  have c20 : w1.cell? ⟨w.heap.size + 1 + 1, 0, none⟩ = some (.slice none 0 0) := by rw [hc _ _ (by simp)]; simp [go_sem]
  have c21 : w1.cell? ⟨w.heap.size + 1 + 1, 1, none⟩ = some (.slice none 0 0) := by rw [hc _ _ (by simp)]; simp [go_sem]
  have c10 : w1.cell? ⟨w.heap.size + 1, 0, none⟩ = some (.slice none 0 0) := by rw [hc _ _ (by simp)]; simp [go_sem]
  have c11 : w1.cell? ⟨w.heap.size + 1, 1, none⟩ = some (.slice none 0 0) := by rw [hc _ _ (by simp)]; simp [go_sem]
  have f2 : ∀ o, w1.frozen? ⟨w.heap.size + 1 + 1, o, none⟩ = false := fun o => by rw [hf _ _ (by simp)]; simp [go_sem]
  have f1 : ∀ o, w1.frozen? ⟨w.heap.size + 1, o, none⟩ = false := fun o => by rw [hf _ _ (by simp)]; simp [go_sem]
  go_wp2_with fail
  have hB2 := hB1.setCell (p := ⟨w.heap.size + 1 + 1, 0, none⟩) (by simp; omega) (.slice (some ⟨w.heap.size + 1 + 1 + 1, 0, none⟩) k k)
  have hI2 := hI1.grown (gr_setCell w1 (w.heap.size + 1 + 1) 0 (.slice (some ⟨w.heap.size + 1 + 1 + 1, 0, none⟩) k k)) (by simp)
  have hz2 : (w1.setCell ⟨w.heap.size + 1 + 1, 0, none⟩ (.slice (some ⟨w.heap.size + 1 + 1 + 1, 0, none⟩) k k)).heap.size = w1.heap.size := by simp [World.setCell]
  refine (toInt64S_any eo m ecap D hm _ (he.below hB2 (Nat.le_refl _))).mono ?_
  rintro e w3 ⟨rfl, hE3, hb3⟩
  obtain ⟨hc3, hf3⟩ := bcell hb3
  rw [hz2] at hc3 hf3 hE3
  have d20 : w3.cell? ⟨w.heap.size + 1 + 1, 0, none⟩ = some (.slice (some ⟨w.heap.size + 1 + 1 + 1, 0, none⟩) k k) := by rw [hc3 _ _ (by omega)]; simp [go_sem, c20]
  have d21 : w3.cell? ⟨w.heap.size + 1 + 1, 1, none⟩ = some (.slice none 0 0) := by rw [hc3 _ _ (by omega)]; simp [go_sem, c21]
  have d10 : w3.cell? ⟨w.heap.size + 1, 0, none⟩ = some (.slice none 0 0) := by rw [hc3 _ _ (by omega)]; simp [go_sem, c10]
  have d11 : w3.cell? ⟨w.heap.size + 1, 1, none⟩ = some (.slice none 0 0) := by rw [hc3 _ _ (by omega)]; simp [go_sem, c11]
  have g2 : ∀ o, w3.frozen? ⟨w.heap.size + 1 + 1, o, none⟩ = false := fun o => by rw [hf3 _ _ (by omega)]; simp [go_sem, f2]
  have g1 : ∀ o, w3.frozen? ⟨w.heap.size + 1, o, none⟩ = false := fun o => by rw [hf3 _ _ (by omega)]; simp [go_sem, f1]
  have hI3 := hI2.below hb3 hI2.lt
  have hB3 := below_next hB2 (Nat.le_refl _) hb3
  have hz3 : w1.heap.size < w3.heap.size := hE3.lt
  clear hc hf hc3 hf3 c20 c21 c10 c11 f2 f1 hI1 hb1 hb3 hB1 hB2 hI2 hz2
  go_wp2
  have hI4 := ((hI3.grown (gr_setCell w3 (w.heap.size + 1 + 1) 1 (.slice (some ⟨w1.heap.size, 0, none⟩) m m)) (by simp)).grown (gr_setCell _ (w.heap.size + 1) 0 (.slice (some ⟨w.heap.size + 1 + 1 + 1, 0, none⟩) k k)) (by simp; omega)).grown (gr_setCell _ (w.heap.size + 1) 1 (.slice (some ⟨w1.heap.size, 0, none⟩) m m)) (by simp; omega)
  have hE4 := ((hE3.grown (gr_setCell w3 (w.heap.size + 1 + 1) 1 (.slice (some ⟨w1.heap.size, 0, none⟩) m m)) (by simp; omega)).grown (gr_setCell _ (w.heap.size + 1) 0 (.slice (some ⟨w.heap.size + 1 + 1 + 1, 0, none⟩) k k)) (by simp; omega)).grown (gr_setCell _ (w.heap.size + 1) 1 (.slice (some ⟨w1.heap.size, 0, none⟩) m m)) (by simp; omega)
  have hB4 := ((hB3.setCell (p := ⟨w.heap.size + 1 + 1, 1, none⟩) (by simp; omega) (.slice (some ⟨w1.heap.size, 0, none⟩) m m)).setCell (p := ⟨w.heap.size + 1, 0, none⟩) (by simp) (.slice (some ⟨w.heap.size + 1 + 1 + 1, 0, none⟩) k k)).setCell (p := ⟨w.heap.size + 1, 1, none⟩) (by simp) (.slice (some ⟨w1.heap.size, 0, none⟩) m m)
  have r0 : (((w3.setCell ⟨w.heap.size + 1 + 1, 1, none⟩ (.slice (some ⟨w1.heap.size, 0, none⟩) m m)).setCell ⟨w.heap.size + 1, 0, none⟩ (.slice (some ⟨w.heap.size + 1 + 1 + 1, 0, none⟩) k k)).setCell ⟨w.heap.size + 1, 1, none⟩ (.slice (some ⟨w1.heap.size, 0, none⟩) m m)).cell? ⟨w.heap.size + 1, 0, none⟩ = some (.slice (some ⟨w.heap.size + 1 + 1 + 1, 0, none⟩) k k) := by simp [go_sem, d10, d11]
  have r1 : (((w3.setCell ⟨w.heap.size + 1 + 1, 1, none⟩ (.slice (some ⟨w1.heap.size, 0, none⟩) m m)).setCell ⟨w.heap.size + 1, 0, none⟩ (.slice (some ⟨w.heap.size + 1 + 1 + 1, 0, none⟩) k k)).setCell ⟨w.heap.size + 1, 1, none⟩ (.slice (some ⟨w1.heap.size, 0, none⟩) m m)).cell? ⟨w.heap.size + 1, 1, none⟩ = some (.slice (some ⟨w1.heap.size, 0, none⟩) m m) := by simp [go_sem, d10, d11]
  generalize (((w3.setCell ⟨w.heap.size + 1 + 1, 1, none⟩ (.slice (some ⟨w1.heap.size, 0, none⟩) m m)).setCell ⟨w.heap.size + 1, 0, none⟩ (.slice (some ⟨w.heap.size + 1 + 1 + 1, 0, none⟩) k k)).setCell ⟨w.heap.size + 1, 1, none⟩ (.slice (some ⟨w1.heap.size, 0, none⟩) m m)) = W4 at hI4 hE4 hB4 r0 r1 ⊢
  simp [bodyPost, results, Try.results13, go_sem, r0, r1]
  exact ⟨_, _, ⟨rfl, rfl⟩, by omega, by omega, hI4, hE4, hB4⟩

end Go.Proofs.Ytmnohgcjdhokdah

/-
  Arcs in a block that a call has not turned.
-/
set_option linter.unusedVariables false
namespace Go.Proofs.Ytmnohgcjdhokdah
open Go.RowKit Go.Maps

theorem Turns.has {w w' : World} {S : List Nat} {b n : Nat} {f : Nat → Int} (h : Turns w w' S) (hb : b ∉ S) (hi : Has w b n f) : Has w' b n f := hi.of_block (h.block b hi.lt hb)

end Go.Proofs.Ytmnohgcjdhokdah

/-
  A box of two cells, and the three lists of Recustomize's answer, each in one fact.
-/
set_option linter.unusedVariables false
set_option linter.unusedSimpArgs false
namespace Go.Proofs.Ytmnohgcjdhokdah
open Go.RowKit Go.Maps

structure Bx2 (W : World) (b : Nat) (v0 v1 : Value) : Prop where
  c0 : W.cell? ⟨b, 0, none⟩ = some v0
  c1 : W.cell? ⟨b, 1, none⟩ = some v1
section
variable {W W' : World} {b : Nat} {v0 v1 : Value}
theorem Bx2.next (h : Bx2 W b v0 v1) (hb : Below W.heap.size W W') : Bx2 W' b v0 v1 := ⟨keep_cell hb (Nat.le_refl _) h.c0, keep_cell hb (Nat.le_refl _) h.c1⟩
theorem Bx2.turn (h : Bx2 W b v0 v1) {S : List Nat} (hT : Turns W W' S) (hb : b ∉ S) : Bx2 W' b v0 v1 := ⟨hT.cell hb h.c0, hT.cell hb h.c1⟩
theorem Bx2.lt (h : Bx2 W b v0 v1) : b < W.heap.size := lt_of_cell h.c0
theorem bx2_new (w : World) (v0 v1 : Value) (t : TypeId) : Bx2 (w.alloc (.cells #[v0, v1] t)) w.heap.size v0 v1 := ⟨by simp [go_sem], by simp [go_sem]⟩
end
/-- Arcs and two lists of numbers, in blocks d, b, c (whatever is empty). -/
structure RcL (W : World) (ao xo yo : Option Addr) (n N d b c : Nat) (f g h : Nat → Int) : Prop where
  ea : 0 < n → ao = some ⟨d, 0, none⟩
  ha : 0 < n → Has W d n f
  ex : 0 < N → xo = some ⟨b, 0, none⟩
  hx : 0 < N → IHas W b N g
  ey : 0 < N → yo = some ⟨c, 0, none⟩
  hy : 0 < N → IHas W c N h
section
variable {W W' : World} {ao xo yo : Option Addr} {n N d b c : Nat} {f g h : Nat → Int}
theorem RcL.next (s : RcL W ao xo yo n N d b c f g h) (hb : Below W.heap.size W W') : RcL W' ao xo yo n N d b c f g h :=
  ⟨s.ea, fun x => (s.ha x).below hb (s.ha x).lt, s.ex, fun x => (s.hx x).below hb (s.hx x).lt, s.ey, fun x => (s.hy x).below hb (s.hy x).lt⟩
theorem RcL.turn (s : RcL W ao xo yo n N d b c f g h) {S : List Nat} (hT : Turns W W' S) (hd : d ∉ S) (hb : b ∉ S) (hc : c ∉ S) : RcL W' ao xo yo n N d b c f g h :=
  ⟨s.ea, fun x => hT.has hd (s.ha x), s.ex, fun x => hT.ihas hb (s.hx x), s.ey, fun x => hT.ihas hc (s.hy x)⟩
theorem RcL.ra {F T G : Nat → Int} (s : RcL W ao xo yo n N d b c (ar F T G) g h) : Row W ao n F T G := fun k hk => by
  rw [s.ea (by omega)]
  exact (s.ha (by omega)).row k hk
theorem RcL.rx (s : RcL W ao xo yo n N d b c f g h) : IRow W xo N g := irow_at s.ex s.hx
theorem RcL.ry (s : RcL W ao xo yo n N d b c f g h) : IRow W yo N h := irow_at s.ey s.hy
end

end Go.Proofs.Ytmnohgcjdhokdah

/-
  The block of a list that is answered, whether it is empty or not.
-/
set_option linter.unusedVariables false
set_option linter.unusedSimpArgs false
namespace Go.Proofs.Ytmnohgcjdhokdah
open Go.RowKit

theorem pick1 {w W : World} {ao : Option Addr} {m : Nat} {R : Nat → Prop} (h : 0 < m → ∃ g, ao = some ⟨g, 0, none⟩ ∧ w.heap.size ≤ g ∧ R g) (l : ∀ g, R g → g < W.heap.size) :
    ∃ b, (0 < m → ao = some ⟨b, 0, none⟩) ∧ (0 < m → R b) ∧ w.heap.size ≤ b ∧ (0 < m → b < W.heap.size) := by
  by_cases hm : 0 < m
  · obtain ⟨g, e, hg, hR⟩ := h hm
    exact ⟨g, fun _ => e, fun _ => hR, hg, fun _ => l g hR⟩
  · exact ⟨w.heap.size, fun h => absurd h hm, fun h => absurd h hm, Nat.le_refl _, fun h => absurd h hm⟩

/-- The two blocks of a metric that is answered, whether it is empty or not. -/
theorem pickM {w W : World} {ao eo : Option Addr} {m : Nat} {R S : Nat → Prop} (h : 0 < m → ∃ b c, ao = some ⟨b, 0, none⟩ ∧ eo = some ⟨c, 0, none⟩ ∧ w.heap.size ≤ b ∧ w.heap.size ≤ c ∧ b ≠ c ∧ R b ∧ S c) (l1 : ∀ g, R g → g < W.heap.size) (l2 : ∀ g, S g → g < W.heap.size) (hs : w.heap.size + 2 ≤ W.heap.size) :
    ∃ b c, (0 < m → ao = some ⟨b, 0, none⟩) ∧ (0 < m → R b) ∧ (0 < m → eo = some ⟨c, 0, none⟩) ∧ (0 < m → S c) ∧ (w.heap.size ≤ b ∧ b < W.heap.size) ∧ (w.heap.size ≤ c ∧ c < W.heap.size) ∧ b ≠ c := by
  by_cases hm : 0 < m
  · obtain ⟨b, c, e1, e2, g1, g2, hne, hR, hS⟩ := h hm
    exact ⟨b, c, fun _ => e1, fun _ => hR, fun _ => e2, fun _ => hS, ⟨g1, l1 b hR⟩, ⟨g2, l2 c hS⟩, hne⟩
  · exact ⟨w.heap.size, w.heap.size + 1, fun h => absurd h hm, fun h => absurd h hm, fun h => absurd h hm, fun h => absurd h hm, ⟨by omega, by omega⟩, ⟨by omega, by omega⟩, by omega⟩

end Go.Proofs.Ytmnohgcjdhokdah

/-
  The laws' helpers over metrics: measured, copied, held against each other, marked.
-/
set_option linter.unusedVariables false
set_option linter.unusedSimpArgs false
namespace Go.Proofs.Ytmnohgcjdhokdah
open Go.RowKit
attribute [local go_sem ↓] Go.wp_at_zero Go.wp_at_succ

set_option maxHeartbeats 1000000 in
theorem eqMetric_same (po po' : Option Addr) (k pcap pcap' : Nat) (P : Nat → Int) (eo eo' : Option Addr) (m ecap ecap' : Nat) (D : Nat → Int) (hk : k ≤ 1048576) (hm : m ≤ 1048576) (w : World) (hp : IRow w po k P) (hp' : IRow w po' k P) (he : IRow w eo m D) (he' : IRow w eo' m D) :
    Calls Try.prog 16 #[.agg #[.slice po k pcap, .slice eo m ecap], .agg #[.slice po' k pcap', .slice eo' m ecap']] w fun e w' => e = .returned (.bool true) ∧ Below w.heap.size w w' := by
  go_enter Try.func16, Try.ntmps16
  go_wp2_with fail
  refine (eqInt64S_same po po' k pcap pcap' P hk _ ((hp.alloc _).alloc _) ((hp'.alloc _).alloc _)).mono ?_
  rintro e w1 ⟨rfl, hb1⟩
  have hB1 : Below w.heap.size w w1 := unbox (unbox hb1 (by simp)) (by simp)
  have c01 := keep_cell hb1 (Nat.le_refl _) (b := w.heap.size) (o := 1) (by simp [go_sem]; rfl)
  have c11 := keep_cell hb1 (Nat.le_refl _) (b := w.heap.size + 1) (o := 1) (by simp [go_sem]; rfl)
  clear hb1
  go_wp2_with fail
  refine (eqInt64S_same eo eo' m ecap ecap' D hm _ (he.below hB1 (Nat.le_refl _)) (he'.below hB1 (Nat.le_refl _))).mono ?_
  rintro e w2 ⟨rfl, hb2⟩
  go_wp2
  go_ret
  exact ⟨rfl, below_next hB1 (Nat.le_refl _) hb2⟩
set_option maxHeartbeats 1000000 in
theorem markMetric_any (b c k m pcap ecap : Nat) (f h : Nat → Int) (q : Int) (hq0 : 0 ≤ q) (hq1 : q + (k : Int) ≤ 4000000) (hk : k ≤ 1048576) (hm : m ≤ 1048576) (w : World) (hi : 0 < k → IHas w b k f) (he : 0 < m → IHas w c m h) (hbc : b ≠ c) (po : Option Addr) (hpo : 0 < k → po = some ⟨b, 0, none⟩) (eo : Option Addr) (heo : 0 < m → eo = some ⟨c, 0, none⟩) (hbl : b < w.heap.size) (hcl : c < w.heap.size) :
    Calls Try.prog 27 #[.agg #[.slice po k pcap, .slice eo m ecap], .int .i64 q] w fun e w' => e = .returned (.int .i64 (q + k + m)) ∧ (0 < k → IHas w' b k (mki q)) ∧ (0 < m → IHas w' c m (mki (q + k))) ∧ Turns w w' [b, c] := by
  go_enter Try.func27, Try.ntmps27
  go_wp2_with fail
  have hal := (Below.refl w.heap.size w).alloc (Nat.le_refl _) (.cells #[.slice po k pcap, .slice eo m ecap] 35)
  refine (markInt64S_any b k pcap f q hq0 (by omega) hk _ (fun h => (hi h).below hal (hi h).lt) po hpo).mono ?_
  rintro e w1 ⟨rfl, hi1, hg1⟩
  have c1 : w1.cell? ⟨w.heap.size, 1, none⟩ = some (.slice eo m ecap) := hg1.cell (by simp [go_sem]) (by simp; omega)
  have T1 : Turns w w1 [b, c] := (Turns.of_below hal (Nat.le_refl _) _).trans ((Turns.of_grown hg1).more (by simp))
  have he1 : 0 < m → IHas w1 c m h := fun x => ((he x).below hal (he x).lt).grown hg1 (by simp; omega)
  have hq3 : 0 ≤ q + (k : Int) := by omega
  have hq4 : q + (k : Int) ≤ 4000000 := by omega
  clear hg1
  go_wp2_with fail
  refine (markInt64S_any c m ecap h (q + k) hq3 hq4 hm _ he1 eo heo).mono ?_
  rintro e w2 ⟨rfl, he2, hg2⟩
  go_wp2
  go_ret
  exact ⟨rfl, fun x => (hi1 x).grown hg2 (by simp; omega), he2, T1.trans ((Turns.of_grown hg2).more (by simp))⟩
set_option maxHeartbeats 1000000 in
theorem heldMetric_any (b c k m pcap ecap : Nat) (q : Int) (hq0 : 0 ≤ q) (hq1 : q + (k : Int) ≤ 4000000) (hk : k ≤ 1048576) (hm : m ≤ 1048576) (w : World) (hi : 0 < k → IHas w b k (mki q)) (he : 0 < m → IHas w c m (mki (q + k))) (po : Option Addr) (hpo : 0 < k → po = some ⟨b, 0, none⟩) (eo : Option Addr) (heo : 0 < m → eo = some ⟨c, 0, none⟩) :
    Calls Try.prog 30 #[.agg #[.slice po k pcap, .slice eo m ecap], .int .i64 q] w fun e w' => e = .returned (.int .i64 (q + k + m)) ∧ Below w.heap.size w w' := by
  have hal := (Below.refl w.heap.size w).alloc (Nat.le_refl _) (.cells #[.slice po k pcap, .slice eo m ecap] 35)
  have hq3 : 0 ≤ q + (k : Int) := by omega
  have hq4 : q + (k : Int) ≤ 4000000 := by omega
  have hq5 : ¬ q + (k : Int) < 0 := by omega
  have hq6 : ¬ q + (k : Int) + (m : Int) < 0 := by omega
  go_enter Try.func30, Try.ntmps30
  go_wp2_with fail
  refine (heldInt64S_any b k pcap q hq0 (by omega) hk _ (fun h => (hi h).below hal (hi h).lt) po hpo).mono ?_
  rintro e w1 ⟨rfl, hq⟩
  have hq' := hq.symm
  subst hq'
  clear hq
  go_wp2_with fail
  refine (heldInt64S_any c m ecap (q + k) hq3 hq4 hm _ (fun h => (he h).below hal (he h).lt) eo heo).mono ?_
  rintro e w1 ⟨rfl, hq⟩
  have hq' := hq.symm
  subst hq'
  clear hq
  go_wp2
  go_ret
  exact ⟨rfl, hal⟩

end Go.Proofs.Ytmnohgcjdhokdah

/-
  The laws' own comparison of arcs.
-/
set_option linter.unusedVariables false
set_option linter.unusedSimpArgs false
namespace Go.Proofs.Ytmnohgcjdhokdah
open Go.RowKit
attribute [local go_sem ↓] Go.wp_at_zero Go.wp_at_succ

theorem eqArc_same (f t g : Int) (w : World) :
    Calls Try.prog 67 #[.agg #[.int .i64 f, .int .i64 t, .int .i64 g], .agg #[.int .i64 f, .int .i64 t, .int .i64 g]] w fun e w' => e = .returned (.bool true) ∧ Below w.heap.size w w' := by
  go_enter Try.func67, Try.ntmps67
  go_wp2
  go_ret
  exact ⟨rfl, ((Below.refl _ _).alloc (Nat.le_refl _) _).alloc (by simp) _⟩
set_option maxHeartbeats 800000 in
theorem eqArcS_same (ao ao' : Option Addr) (n cap cap' : Nat) (F T G : Nat → Int) (hn : n ≤ 1048576) (w : World) (hr : Row w ao n F T G) (hr' : Row w ao' n F T G) :
    Calls Try.prog 24 #[.slice ao n cap, .slice ao' n cap'] w fun e w' => e = .returned (.bool true) ∧ Below w.heap.size w w' := by
  go_enter Try.func24, Try.ntmps24
  go_wp2
  go_loopw [5] (fun i wr => ∃ k : Nat, k ≤ n ∧ i = .int .i64 k ∧ Below w.heap.size w wr) (fun i _ => n - (intOf i).toNat)
  case atStart => exact ⟨0, Nat.zero_le _, rfl, Below.refl _ _⟩
  case round =>
    obtain ⟨k, hk, rfl, hbel⟩ := hrel
    by_cases hlt : k < n
    rotate_left
    · have hkn : k = n := by omega
      subst hkn
      go_wp2
      go_ret
      exact ⟨rfl, hbel⟩
    obtain ⟨b, o, hao, c0, c1, c2⟩ := (hr.below hbel (Nat.le_refl _)) k hlt
    obtain ⟨b', o', hao', d0, d1, d2⟩ := (hr'.below hbel (Nat.le_refl _)) k hlt
    subst hao
    subst hao'
    have hk1 : (0 : Int) ≤ (k : Int) := by omega
    have hk2 : (k : Int) < (n : Int) := by omega
    go_wp2
    go_region_held3 (fun w' => w'.cell? ⟨b, o + k * 3, none⟩ = some (.int .i64 (F k)) ∧ w'.cell? ⟨b, o + k * 3 + 1, none⟩ = some (.int .i64 (T k)) ∧ w'.cell? ⟨b, o + k * 3 + 2, none⟩ = some (.int .i64 (G k)) ∧ w'.cell? ⟨b', o' + k * 3, none⟩ = some (.int .i64 (F k)) ∧ w'.cell? ⟨b', o' + k * 3 + 1, none⟩ = some (.int .i64 (T k)) ∧ w'.cell? ⟨b', o' + k * 3 + 2, none⟩ = some (.int .i64 (G k)))
        (first | (go_split_ands; refine ⟨?_, ?_, ?_, ?_, ?_, ?_⟩ <;> exact keep_cell ‹_› (Nat.le_refl _) (by assumption)) | go_keep)
        (first | (go_at_call 67; refine (eqArc_same _ _ _ _).mono ?_; rintro e w2 ⟨rfl, hb2⟩))
    go_wp2
    go_roundw
    case rel => exact ⟨k + 1, by omega, by go_num, below_next hbel.drew (Nat.le_refl _) hb2⟩
    case measure => simp [intOf]; omega

end Go.Proofs.Ytmnohgcjdhokdah

/-
  The laws' own comparison: two maps with the same places and arcs are told alike.
-/
set_option linter.unusedVariables false
set_option linter.unusedSimpArgs false
namespace Go.Proofs.Ytmnohgcjdhokdah
open Go.RowKit
attribute [local go_sem ↓] Go.wp_at_zero Go.wp_at_succ

set_option maxHeartbeats 800000 in
theorem eqGraph_same (p : Int) (ao ao' : Option Addr) (n cap cap' : Nat) (F T G : Nat → Int) (hn : n ≤ 1048576) (w : World) (hr : Row w ao n F T G) (hr' : Row w ao' n F T G) :
    Calls Try.prog 23 #[.agg #[.int .i64 p, .slice ao n cap], .agg #[.int .i64 p, .slice ao' n cap']] w fun e w' => e = .returned (.bool true) ∧ Below w.heap.size w w' := by
  go_enter Try.func23, Try.ntmps23
  go_wp2_with (go_at_call 24; refine (eqArcS_same ao ao' n cap cap' F T G hn _ ((hr.alloc _).alloc _) ((hr'.alloc _).alloc _)).mono ?_; rintro e w1 ⟨rfl, hb1⟩)
  go_ret
  exact ⟨rfl, below_next (((Below.refl _ _).alloc (Nat.le_refl _) _).alloc (by simp) _) (Nat.le_refl _) hb1⟩

end Go.Proofs.Ytmnohgcjdhokdah

/-
  What the reading of an argument says of its memory: a list of arcs that came in lies behind its address, three numbers an arc.
-/
set_option linter.unusedVariables false
set_option linter.unusedSimpArgs false
namespace Go.Proofs.Ytmnohgcjdhokdah
open Go.ChangeShapes Go.WideShapes Go.ChangeAt Go.RowKit Go.Deep Go.Joins

theorem Try.cellsLArc : Try.prog.cellsOf 91 = 3 := by kernel_rfl
set_option maxRecDepth 100000 in
theorem open_arcs {H : Type} {enc : TypeId × Value → H} {w : World} {base : Nat} {spare : Nat → Bool} {held : Bool} {fuel : Nat} {cs : List Value} {x : DataW H × List MemPlace}
    (h : DataW.trod enc Try.prog w base spare held fuel 40 cs = some x) :
    ∃ (ao : Option Addr) (n cap : Nat) (F T G : Nat → Int), cs = [.slice ao n cap] ∧ n ≤ maxLen ∧ Row w ao n F T G := by
  rcases open_slice Try.underlying40 h with ⟨rfl, _⟩ | ⟨a, len, cap, m, n, D, Pl, rfl, hb, hl, hm, hmm, _, hx⟩
  · exact ⟨none, 0, 0, fun _ => 0, fun _ => 0, fun _ => 0, rfl, Nat.zero_le _, fun k hk => by omega⟩
  have hlm : len ≤ m := by rw [hmm]; split <;> omega
  have each : ∀ i, i < len → ∃ q : Int × Int × Int, w.cell? (a.add (i * 3)) = some (.int .i64 q.1) ∧ w.cell? (a.add (i * 3 + 1)) = some (.int .i64 q.2.1) ∧ w.cell? (a.add (i * 3 + 2)) = some (.int .i64 q.2.2) := by
    intro i hi
    obtain ⟨cs', h1, h2⟩ := hx i (by omega)
    rw [Try.cellsLArc] at h1
    obtain ⟨_, hlen, hcell⟩ := World.cells?_some h1
    obtain ⟨y0, y1, y2, n', _, _, g0, g1, g2⟩ := trod_struct3 Try.underlying91 h2
    match cs', hlen with
    | [v0, v1, v2], _ =>
      simp [Try.cellsInt] at g0 g1 g2
      obtain ⟨q0, r0, _⟩ := DataW.trod_int Try.underlying2 g0
      obtain ⟨q1, r1, _⟩ := DataW.trod_int Try.underlying2 g1
      obtain ⟨q2, r2, _⟩ := DataW.trod_int Try.underlying2 g2
      have e0 := hcell 0 (by omega)
      have e1 := hcell 1 (by omega)
      have e2 := hcell 2 (by omega)
      rw [add_add] at e0 e1 e2
      simp at r0 r1 r2
      subst r0 r1 r2
      exact ⟨(q0, q1, q2), by simpa using e0, by simpa using e1, by simpa using e2⟩
  obtain ⟨f, hf⟩ := choose_lt each
  refine ⟨some a, len, cap, fun i => (f i).1, fun i => (f i).2.1, fun i => (f i).2.2, rfl, by omega, fun k hk => ?_⟩
  obtain ⟨b, o, spot⟩ := a
  have hspot : spot = none := by
    have := World.cell?_spot (hf 0 (by omega)).1
    simpa [Addr.add] using this
  subst hspot
  have := hf k hk
  rw [Addr.add_mid, Addr.add_mid, Addr.add_mid] at this
  exact ⟨b, o, rfl, this.1, by simpa [Nat.add_assoc] using this.2.1, by simpa [Nat.add_assoc] using this.2.2⟩

end Go.Proofs.Ytmnohgcjdhokdah

/-
  What the reading of an argument says of its memory: a list of arcs that came in lies behind its address, three numbers an arc.
-/
set_option linter.unusedVariables false
set_option linter.unusedSimpArgs false
namespace Go.Proofs.Ytmnohgcjdhokdah
open Go.ChangeShapes Go.WideShapes Go.ChangeAt Go.RowKit Go.Deep Go.Joins

theorem Try.cellsLGraph : Try.prog.cellsOf 42 = 2 := by kernel_rfl

end Go.Proofs.Ytmnohgcjdhokdah

/-
  Arcs of the law's own: each number is marked.
-/
set_option linter.unusedVariables false
set_option linter.unusedSimpArgs false
namespace Go.Proofs.Ytmnohgcjdhokdah
open Go.RowKit Go.Maps

set_option maxHeartbeats 1000000 in
theorem markArcS_any (b n cap : Nat) (f : Nat → Int) (k : Int) (hk0 : 0 ≤ k) (hk1 : k ≤ 4000000) (hn : n ≤ 1048576) (w : World) (h : 0 < n → Has w b n f) (ao : Option Addr) (hao : 0 < n → ao = some ⟨b, 0, none⟩) :
    Calls Try.prog 28 #[.slice ao n cap, .int .i64 k] w fun e w' => e = .returned (.int .i64 (k + 3 * n)) ∧ (0 < n → Has w' b n (mk k)) ∧ w.grownBy w' (some b) := by
  go_enter Try.func28, Try.ntmps28
  go_wp2
  go_loopw [1, 5] (fun q i wr => ∃ m : Nat, m ≤ n ∧ i = .int .i64 m ∧ q = .int .i64 (k + 3 * m) ∧ (0 < n → Has wr b n (fun j => if j < 3 * m then mk k j else f j)) ∧ w.grownBy wr (some b)) (fun _ i _ => n - (intOf i).toNat)
  case atStart => exact ⟨0, Nat.zero_le _, rfl, by simp, fun hp => (h hp).congr (fun j _ => by simp), World.grownBy.refl _ _⟩
  case round =>
    obtain ⟨m, hm, rfl, rfl, hh, hg⟩ := hrel
    by_cases hlt : m < n
    rotate_left
    · have e : m = n := by omega
      subst e
      go_wp2
      go_ret
      exact ⟨rfl, fun hp => (hh hp).congr (fun j hj => by rw [if_pos (by omega)]), hg⟩
    obtain rfl := hao (by omega)
    have HH := hh (by omega)
    have d0 := HH.cell (j := m * 3) (by omega)
    have d1 := HH.cell (j := m * 3 + 1) (by omega)
    have d2 := HH.cell (j := m * 3 + 2) (by omega)
    have z0 := HH.frozen (m * 3)
    have z1 := HH.frozen (m * 3 + 1)
    have z2 := HH.frozen (m * 3 + 2)
    have R := ((HH.set (m * 3) (k + 3 * m)).set (m * 3 + 1) (k + 3 * m + 1)).set (m * 3 + 2) (k + 3 * m + 1 + 1)
    have S := ((hg.trans (grown_setCell _ b (m * 3) (.int .i64 (k + 3 * m)))).trans (grown_setCell _ b (m * 3 + 1) (.int .i64 (k + 3 * m + 1)))).trans (grown_setCell _ b (m * 3 + 2) (.int .i64 (k + 3 * m + 1 + 1)))
    clear HH hh
    go_wp2
    go_roundw
    case rel =>
      refine ⟨m + 1, by omega, by go_num, by go_num, fun _ => R.congr (fun j hj => ?_), S⟩
      by_cases e2 : j = m * 3 + 2
      · subst e2; simp [mk]; omega
      by_cases e1 : j = m * 3 + 1
      · subst e1; simp [mk]; omega
      by_cases e0 : j = m * 3
      · subst e0; simp [mk]; omega
      simp only [if_neg e2, if_neg e1, if_neg e0]
      by_cases hl : j < 3 * m
      · rw [if_pos hl, if_pos (by omega)]
      · rw [if_neg hl, if_neg (by omega)]
    case measure => simp [intOf]; omega

attribute [local go_sem ↓] Go.wp_at_zero Go.wp_at_succ

end Go.Proofs.Ytmnohgcjdhokdah

/-
  What the exact laws' own helpers do with arcs and maps of the law's own: each number is marked.
-/
set_option linter.unusedVariables false
set_option linter.unusedSimpArgs false
namespace Go.Proofs.Ytmnohgcjdhokdah
open Go.RowKit Go.Maps

theorem markGraph_any (p : Int) (b n cap : Nat) (f : Nat → Int) (k : Int) (hk0 : 0 ≤ k) (hk1 : k ≤ 4000000) (hn : n ≤ 1048576) (w : World) (h : 0 < n → Has w b n f) (ao : Option Addr) (hao : 0 < n → ao = some ⟨b, 0, none⟩) :
    Calls Try.prog 25 #[.agg #[.int .i64 p, .slice ao n cap], .int .i64 k] w fun e w' => e = .returned (.int .i64 (k + 3 * n)) ∧ (0 < n → Has w' b n (mk k)) ∧ w.grownBy w' (some b) := by
  go_enter Try.func25, Try.ntmps25
  go_wp2_with (go_at_call 28; refine (markArcS_any b n cap f k hk0 hk1 hn _ (fun hp => (h hp).below ((Below.refl w.heap.size w).alloc (Nat.le_refl _) _) (h hp).lt) ao hao).mono ?_; rintro e w1 ⟨rfl, hh, hg⟩)
  go_ret
  exact ⟨rfl, hh, grown_unbox hg⟩

end Go.Proofs.Ytmnohgcjdhokdah

/-
  The look whether arcs' marks are still held.
-/
set_option linter.unusedVariables false
set_option linter.unusedSimpArgs false
namespace Go.Proofs.Ytmnohgcjdhokdah
open Go.RowKit Go.Maps
attribute [local go_sem ↓] Go.wp_at_zero Go.wp_at_succ

set_option maxHeartbeats 1000000 in
theorem heldArcS_any (b n cap : Nat) (k : Int) (hk0 : 0 ≤ k) (hk1 : k ≤ 4000000) (hn : n ≤ 1048576) (w : World) (h : 0 < n → Has w b n (mk k)) (ao : Option Addr) (hao : 0 < n → ao = some ⟨b, 0, none⟩) :
    Calls Try.prog 69 #[.slice ao n cap, .int .i64 k] w fun e w' => e = .returned (.int .i64 (k + 3 * n)) ∧ w' = w := by
  go_enter Try.func69, Try.ntmps69
  go_wp2
  go_loop [1, 5] (fun q i => ∃ m : Nat, m ≤ n ∧ i = .int .i64 m ∧ q = .int .i64 (k + 3 * m)) (fun _ i => n - (intOf i).toNat)
  case atStart => exact ⟨0, Nat.zero_le _, rfl, by simp⟩
  case round =>
    obtain ⟨m, hm, rfl, rfl⟩ := hrel
    by_cases hlt : m < n
    rotate_left
    · have e : m = n := by omega
      subst e
      go_wp2
      go_ret
      exact ⟨rfl, rfl⟩
    obtain rfl := hao (by omega)
    have HH := h (by omega)
    have d0 : w.cell? ⟨b, m * 3, none⟩ = some (.int .i64 (k + 3 * m)) := by
      rw [HH.cell (by omega)]; simp [mk]; omega
    have d1 : w.cell? ⟨b, m * 3 + 1, none⟩ = some (.int .i64 (k + 3 * m + 1)) := by
      rw [HH.cell (by omega)]; simp [mk]; omega
    have d2 : w.cell? ⟨b, m * 3 + 2, none⟩ = some (.int .i64 (k + 3 * m + 1 + 1)) := by
      rw [HH.cell (by omega)]; simp [mk]; omega
    clear HH
    go_wp2
    go_round
    case rel => exact ⟨m + 1, by omega, by go_num, by go_num⟩
    case measure => simp [intOf]; omega

end Go.Proofs.Ytmnohgcjdhokdah

/-
  The look whether an answer's marks are still held.
-/
set_option linter.unusedVariables false
set_option linter.unusedSimpArgs false
namespace Go.Proofs.Ytmnohgcjdhokdah
open Go.RowKit Go.Maps
attribute [local go_sem ↓] Go.wp_at_zero Go.wp_at_succ

theorem heldGraph_any (p : Int) (b n cap : Nat) (k : Int) (hk0 : 0 ≤ k) (hk1 : k ≤ 4000000) (hn : n ≤ 1048576) (w : World) (h : 0 < n → Has w b n (mk k)) (ao : Option Addr) (hao : 0 < n → ao = some ⟨b, 0, none⟩) :
    Calls Try.prog 29 #[.agg #[.int .i64 p, .slice ao n cap], .int .i64 k] w fun e w' => e = .returned (.int .i64 (k + 3 * n)) ∧ Below w.heap.size w w' := by
  go_enter Try.func29, Try.ntmps29
  go_wp2_with (go_at_call 69; refine (heldArcS_any b n cap k hk0 hk1 hn _ (fun hp => (h hp).below ((Below.refl w.heap.size w).alloc (Nat.le_refl _) _) (h hp).lt) ao hao).mono ?_; rintro e w1 ⟨rfl, rfl⟩)
  go_ret
  exact ⟨rfl, (Below.refl _ _).alloc (Nat.le_refl _) _⟩

end Go.Proofs.Ytmnohgcjdhokdah

/-
  The cells of a hierarchy as it is handed in.
-/
set_option linter.unusedVariables false
set_option linter.unusedSimpArgs false
namespace Go.Proofs.Ytmnohgcjdhokdah

theorem Try.cellsLHier : Try.prog.cellsOf 25 = 2 := by kernel_rfl

end Go.Proofs.Ytmnohgcjdhokdah

/-
  The cells of a metric as it is handed in.
-/
set_option linter.unusedVariables false
set_option linter.unusedSimpArgs false
namespace Go.Proofs.Ytmnohgcjdhokdah

theorem Try.cellsLMetric : Try.prog.cellsOf 27 = 2 := by kernel_rfl

end Go.Proofs.Ytmnohgcjdhokdah
