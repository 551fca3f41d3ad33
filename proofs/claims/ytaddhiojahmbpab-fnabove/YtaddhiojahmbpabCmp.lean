/-
  Which of two edges goes first: the program's comparison answers a number below nought just where the first one is below the second. No condition.
-/
import Derived.Test.YtaddhiojahmbpabEdge
set_option linter.unusedVariables false
set_option linter.unusedSimpArgs false
namespace Go.Proofs.Ytaddhiojahmbpab
open Go.RowKit
attribute [local go_sem ↓] Go.wp_at_zero Go.wp_at_succ

/-- Which one goes first. -/
def cmpI (x y : Int) : Int := if x < y then -1 else if y < x then 1 else 0
def orI (x y : Int) : Int := if x = 0 then y else x
def cmpE (l h l' h' : Int) : Int := orI (cmpI l l') (cmpI h h')
theorem cmpE_up (l h l' h' : Int) : cmpE l h l' h' < 0 ↔ upB l h l' h' = true := by
  unfold cmpE orI cmpI upB
  by_cases h1 : l < l'
  · simp [h1]
  by_cases h2 : l' < l
  · have : l ≠ l' := by omega
    simp [h1, h2, this]
  have : l = l' := by omega
  subst this
  by_cases h3 : h < h'
  · simp [h3]
  by_cases h4 : h' < h <;> simp [h3, h4]
theorem cmpE_in (l h l' h' : Int) : -1 ≤ cmpE l h l' h' ∧ cmpE l h l' h' ≤ 1 := by
  unfold cmpE orI cmpI
  by_cases h1 : l < l' <;> by_cases h2 : l' < l <;> by_cases h3 : h < h' <;> by_cases h4 : h' < h <;> simp [h1, h2, h3, h4]

theorem isNaN_any (x : Int) (w : World) : Calls Try.prog 43 #[.int .i64 x] w fun e w' => e = .returned (.bool false) ∧ w' = w := by
  go_enter Try.func43, Try.ntmps43
  go_wp2
  go_ret
  exact ⟨by simp, rfl⟩

theorem compare_any (x y : Int) (w : World) : Calls Try.prog 42 #[.int .i64 x, .int .i64 y] w fun e w' => e = .returned (.int .i64 (cmpI x y)) ∧ w' = w := by
  unfold cmpI
  by_cases h1 : x < y
  · go_enter Try.func42, Try.ntmps42
    go_wp2_with (go_at_call 43; refine (isNaN_any _ _).mono ?_; rintro e w1 ⟨rfl, rfl⟩)
    go_ret
    exact ⟨by simp [h1], rfl⟩
  by_cases h2 : y < x <;>
  · go_enter Try.func42, Try.ntmps42
    go_wp2_with (go_at_call 43; refine (isNaN_any _ _).mono ?_; rintro e w1 ⟨rfl, rfl⟩)
    go_ret
    exact ⟨by simp [h1, h2], rfl⟩

theorem or_two (b o c : Nat) (x y : Int) (w : World) (h0 : w.cell? ⟨b, o, none⟩ = some (.int .i64 x)) (h1 : w.cell? ⟨b, o + 1, none⟩ = some (.int .i64 y)) :
    Calls Try.prog 41 #[.slice (some ⟨b, o, none⟩) 2 c] w fun e w' => e = .returned (.int .i64 (orI x y)) ∧ w' = w := by
  unfold orI
  go_enter Try.func41, Try.ntmps41
  go_wp2
  go_loop [8] (fun i => ∃ k : Nat, k ≤ 2 ∧ i = .int .i64 k ∧ (1 ≤ k → x = 0) ∧ (2 ≤ k → y = 0)) (fun i => 2 - (intOf i).toNat)
  case atStart => exact ⟨0, by omega, rfl, fun h => by omega, fun h => by omega⟩
  case round =>
    obtain ⟨k, hk, rfl, hx, hy⟩ := hrel
    have h3 : k = 0 ∨ k = 1 ∨ k = 2 := by omega
    rcases h3 with rfl | rfl | rfl
    · clear hx hy
      by_cases e : x = 0
      · go_wp2
        go_round
        case rel => exact ⟨1, by omega, by go_num, fun _ => e, fun h => by omega⟩
        case measure => simp [intOf]
      · go_wp2
        go_ret
        exact ⟨by simp [e], rfl⟩
    · have hx := hx (by omega)
      subst hx
      clear hy
      by_cases e : y = 0
      · go_wp2
        go_round
        case rel => exact ⟨2, by omega, by go_num, by simp, fun h => e⟩
        case measure => simp [intOf]
      · go_wp2
        go_ret
        exact ⟨by simp, rfl⟩
    · have hx := hx (by omega)
      have hy := hy (by omega)
      subst hx hy
      go_wp2
      go_ret
      exact ⟨by simp, rfl⟩

theorem compareEdges_any (l h l' h' : Int) (w : World) :
    Calls Try.prog 40 #[.agg #[.int .i64 l, .int .i64 h], .agg #[.int .i64 l', .int .i64 h']] w fun e w' => e = .returned (.int .i64 (cmpE l h l' h')) ∧ Below w.heap.size w w' := by
  go_enter Try.func40, Try.ntmps40
  go_wp2_with fail
  have hA : Below w.heap.size w ((w.alloc (.cells #[.int .i64 l, .int .i64 h] 38)).alloc (.cells #[.int .i64 l', .int .i64 h'] 38)) := ((Below.refl _ _).alloc (Nat.le_refl _) _).alloc (by simp) _
  go_region_held3 (fun W => W.cell? ⟨w.heap.size, 0, none⟩ = some (.int .i64 l) ∧ W.cell? ⟨w.heap.size, 1, none⟩ = some (.int .i64 h) ∧ W.cell? ⟨w.heap.size + 1, 0, none⟩ = some (.int .i64 l') ∧ W.cell? ⟨w.heap.size + 1, 1, none⟩ = some (.int .i64 h'))
    (first | go_keep)
    (first | (go_at_call 42; refine (compare_any _ _ _).mono ?_; rintro e w1 ⟨rfl, rfl⟩) | (go_at_call 41; refine (or_two _ _ _ _ _ _ (by simp [go_sem]; rfl) (by simp [go_sem]; rfl)).mono ?_; rintro e w1 ⟨rfl, rfl⟩))
  go_wp2
  go_ret
  exact ⟨rfl, (hA.alloc (by simp; omega) _).drew⟩

end Go.Proofs.Ytaddhiojahmbpab
