/-
  The document's GraphOk answers 'graphB' of the map's places and arcs, for every map.
-/
import Derived.Test.YtmnohgcjdhokdaeDoorOk
set_option linter.unusedVariables false
set_option linter.unusedSimpArgs false
namespace Go.Proofs.YtmnohgcjdhokdaeDoor
open Go.RowKit

theorem arcsB_no {p : Int} {F T G : Nat → Int} {k : Nat} (h : arcB (F k) (T k) (G k) p = false) : ∀ n, k < n → arcsB p F T G n = false
  | 0, hk => by omega
  | n + 1, hk => by
    by_cases e : k = n
    · subst e; simp [arcsB, h]
    · simp [arcsB, arcsB_no h n (by omega)]
theorem arcsB_down {p : Int} {F T G : Nat → Int} {k : Nat} (h0 : 0 < k) (h : upB (F (k - 1)) (T (k - 1)) (F k) (T k) = false) : ∀ n, k < n → arcsB p F T G n = false
  | 0, hk => by omega
  | n + 1, hk => by
    by_cases e : k = n
    · subst e
      have : (k == 0) = false := by simp; omega
      simp [arcsB, h, this]
    · simp [arcsB, arcsB_down h0 h n (by omega)]
theorem arcsB_step {p : Int} {F T G : Nat → Int} {k : Nat} (h : arcsB p F T G k = true) (ha : arcB (F k) (T k) (G k) p = true) (hu : k = 0 ∨ upB (F (k - 1)) (T (k - 1)) (F k) (T k) = true) : arcsB p F T G (k + 1) = true := by
  rcases hu with hu | hu
  · subst hu; simp [arcsB, ha]
  · simp [arcsB, h, ha, hu]
set_option maxHeartbeats 1600000 in
theorem specGraphOk_any (p : Int) (ao : Option Addr) (n cap : Nat) (F T G : Nat → Int) (hn : n ≤ 1048576) (w : World) (hr : Row w ao n F T G) :
    Calls Tryd.prog 15 #[.agg #[.int .i64 p, .slice ao n cap]] w fun e w' => e = .returned (.bool (graphB p n F T G)) ∧ Below w.heap.size w w' := by
  by_cases h1 : inB p 1 24 = true
  rotate_left
  · have h1 : inB p 1 24 = false := by simpa using h1
    go_enter Tryd.func15, Tryd.ntmps15
    go_wp2_with (go_at_call 27; refine (l1In_any _ _ _ _).mono ?_; rintro e w1 ⟨rfl, rfl⟩)
    go_ret
    exact ⟨by simp [graphB, h1], (Below.refl _ _).alloc (Nat.le_refl _) _⟩
  by_cases h2 : n ≤ 100
  rotate_left
  · go_enter Tryd.func15, Tryd.ntmps15
    go_wp2_with (go_at_call 27; refine (l1In_any _ _ _ _).mono ?_; rintro e w1 ⟨rfl, rfl⟩)
    go_ret
    exact ⟨by simp [graphB, h1, h2], (Below.refl _ _).alloc (Nat.le_refl _) _⟩
  have hp : 1 ≤ p ∧ p ≤ 24 := by simpa [inB] using h1
  obtain ⟨hp1, hp2⟩ := hp
  go_enter Tryd.func15, Tryd.ntmps15
  go_wp2_with (go_at_call 27; refine (l1In_any _ _ _ _).mono ?_; rintro e w1 ⟨rfl, rfl⟩)
  go_loopw [3] (fun i wr => ∃ k : Nat, k ≤ n ∧ i = .int .i64 k ∧ arcsB p F T G k = true ∧ Below (w.heap.size + 1) (w.alloc (.cells #[.int .i64 p, .slice ao n cap] 29)) wr) (fun i _ => n - (intOf i).toNat)
  case atStart => exact ⟨0, Nat.zero_le _, rfl, rfl, Below.refl _ _⟩
  case round =>
    obtain ⟨k, hk, rfl, hok, hbel⟩ := hrel
    have g0 : wr.cell? ⟨w.heap.size, 0, none⟩ = some (.int .i64 p) := by rw [hbel.cell (by simp)]; simp [go_sem]
    have g1 : wr.cell? ⟨w.heap.size, 1, none⟩ = some (.slice ao n cap) := by rw [hbel.cell (by simp)]; simp [go_sem]
    have hsz : w.heap.size < wr.heap.size := by have := hbel.size; simp at this; omega
    have HOK : Hid (arcsB p F T G k = true) := hok
    clear hok
    by_cases hlt : k < n
    rotate_left
    · have hkn : k = n := by omega
      subst hkn
      go_wp2
      go_ret
      exact ⟨ret_bool (by simp [graphB, h1, h2, HOK.out]), unbox hbel (by omega)⟩
    obtain ⟨b, o, hao, c0, c1, c2⟩ := ((hr.alloc _).below hbel (by simp)) k hlt
    subst hao
    rcases Bool.eq_false_or_eq_true (arcB (F k) (T k) (G k) p) with ha | ha
    rotate_left
    · go_wp2_with (go_at_call 28; refine (l1Arc_any _ _ _ _ hp1 hp2 _).mono ?_; rintro e w1 ⟨rfl, hb1⟩)
      go_ret
      exact ⟨ret_bool (by simp [graphB, h1, arcsB_no ha n hlt]), unbox ((hbel.alloc (by omega) _).trans (hb1.mono (by simp; omega))) (by omega)⟩
    by_cases h0 : 0 < k
    rotate_left
    · go_wp2_with (go_at_call 28; refine (l1Arc_any _ _ _ _ hp1 hp2 _).mono ?_; rintro e w1 ⟨rfl, hb1⟩)
      go_roundw
      case rel => exact ⟨k + 1, by omega, by go_num, arcsB_step HOK.out ha (Or.inl (by omega)), (hbel.alloc (by omega) _).trans (hb1.mono (by simp; omega))⟩
      case measure => simp [intOf]; omega
    have hbw : b < wr.heap.size := lt_of_cell c0
    obtain ⟨b', o', hao', d0, d1, d2⟩ := ((hr.alloc _).below hbel (by simp)) (k - 1) (by omega)
    simp only [Option.some.injEq, Addr.mk.injEq, and_true] at hao'
    obtain ⟨rfl, rfl⟩ := hao'
    rcases Int.lt_trichotomy (F (k - 1)) (F k) with hF | hF | hF
    · go_wp2_with (go_at_call 28; refine (l1Arc_any _ _ _ _ hp1 hp2 _).mono ?_; rintro e w1 ⟨rfl, hb1⟩; obtain ⟨hc, hf⟩ := bcell hb1; obtain ⟨hz, hz1, hz2⟩ := three_lt hb1 hsz hbw)
      go_roundw
      case rel => exact ⟨k + 1, by omega, by go_num, arcsB_step HOK.out ha (Or.inr (upB_yes1 hF)), ((hbel.alloc (by omega) _).trans (hb1.mono (by simp; omega))).alloc (by omega) _⟩
      case measure => simp [intOf]; omega
    · have hF1 : F (k - 1) ≤ F k := by omega
      have hF2 : F k ≤ F (k - 1) := by omega
      clear hF
      by_cases hT : T k ≤ T (k - 1)
      · go_wp2_with (go_at_call 28; refine (l1Arc_any _ _ _ _ hp1 hp2 _).mono ?_; rintro e w1 ⟨rfl, hb1⟩; obtain ⟨hc, hf⟩ := bcell hb1; obtain ⟨hz, hz1, hz2⟩ := three_lt hb1 hsz hbw)
        go_ret
        exact ⟨ret_bool (by simp [graphB, h1, arcsB_down h0 (upB_no2 hF1 hF2 hT) n hlt]), unbox (((hbel.alloc (by omega) _).trans (hb1.mono (by simp; omega))).alloc (by omega) _) (by omega)⟩
      · go_wp2_with (go_at_call 28; refine (l1Arc_any _ _ _ _ hp1 hp2 _).mono ?_; rintro e w1 ⟨rfl, hb1⟩; obtain ⟨hc, hf⟩ := bcell hb1; obtain ⟨hz, hz1, hz2⟩ := three_lt hb1 hsz hbw)
        go_roundw
        case rel => exact ⟨k + 1, by omega, by go_num, arcsB_step HOK.out ha (Or.inr (upB_yes2 hF1 hF2 (by omega))), ((hbel.alloc (by omega) _).trans (hb1.mono (by simp; omega))).alloc (by omega) _⟩
        case measure => simp [intOf]; omega
    · go_wp2_with (go_at_call 28; refine (l1Arc_any _ _ _ _ hp1 hp2 _).mono ?_; rintro e w1 ⟨rfl, hb1⟩; obtain ⟨hc, hf⟩ := bcell hb1; obtain ⟨hz, hz1, hz2⟩ := three_lt hb1 hsz hbw)
      go_ret
      exact ⟨ret_bool (by simp [graphB, h1, arcsB_down h0 (upB_no1 hF) n hlt]), unbox (((hbel.alloc (by omega) _).trans (hb1.mono (by simp; omega))).alloc (by omega) _) (by omega)⟩

end Go.Proofs.YtmnohgcjdhokdaeDoor
