/-
  slices.Reverse of a list of steps of one's own.
-/
import Derived.Test.YtokaechbmnbbiabGreatRtOP
import Derived.Laws.OwnMore
import Derived.BigRegion
set_option linter.unusedVariables false
set_option linter.unusedSimpArgs false
namespace Go.Proofs.YtokaechbmnbbiabGreat
open Go.RowKit Go.Deep
attribute [local go_sem ↓] Go.wp_at_zero Go.wp_at_succ

theorem scells_set : ∀ (l : List (Nat × Bool)) (i e : Nat) (u : Bool), ((scells l).set (i * 2) (.int .i64 (e : Int))).set (i * 2 + 1) (.bool u) = scells (l.set i (e, u))
  | [], i, e, u => by simp [scells]
  | s :: l, 0, e, u => by simp [scells]
  | s :: l, i + 1, e, u => by
    have := scells_set l i e u
    simp only [scells, List.set_cons_succ, show (i + 1) * 2 = i * 2 + 1 + 1 by omega]
    rw [this]
theorem SOwn.put {w : World} {base g cap : Nat} {l : List (Nat × Bool)} (h : SOwn w base (some ⟨g, 0, none⟩) cap l) (i e : Nat) (u : Bool) : SOwn ((w.setCell ⟨g, i * 2, none⟩ (.int .i64 (e : Int))).setCell ⟨g, i * 2 + 1, none⟩ (.bool u)) base (some ⟨g, 0, none⟩) cap (l.set i (e, u)) := by
  unfold SOwn at h ⊢
  have h2 := (World.ownsRow.stored (World.ownsRow.stored h (i * 2) (.int .i64 (e : Int))).1 (i * 2 + 1) (.bool u)).1
  rw [scells_set] at h2
  rw [List.length_set]
  exact h2
def rvl (l : List (Nat × Bool)) : Nat → List (Nat × Bool)
  | 0 => l
  | i + 1 => ((rvl l i).set i ((rvl l i).getD (l.length - 1 - i) (0, false))).set (l.length - 1 - i) ((rvl l i).getD i (0, false))
theorem rvl_len (l : List (Nat × Bool)) : ∀ i, (rvl l i).length = l.length
  | 0 => rfl
  | i + 1 => by simp [rvl, rvl_len l i]
theorem rvl_at (l : List (Nat × Bool)) : ∀ i, 2 * i ≤ l.length → ∀ t, t < l.length → (rvl l i).getD t (0, false) = if t < i ∨ l.length - 1 - i < t then l.getD (l.length - 1 - t) (0, false) else l.getD t (0, false)
  | 0, _, t, ht => by rw [if_neg (by omega)]; rfl
  | i + 1, hi, t, ht => by
    have ih := rvl_at l i (by omega)
    have hl := rvl_len l i
    simp only [rvl]
    rw [List.getD_eq_getElem?_getD, List.getElem?_set]
    by_cases e1 : l.length - 1 - i = t
    · rw [if_pos e1, if_pos (by simp; omega), Option.getD_some, ih i (by omega)]
      rw [if_neg (by omega), if_pos (by omega), ← e1]
      congr 1
      omega
    · rw [if_neg e1, List.getElem?_set]
      by_cases e2 : i = t
      · rw [if_pos e2, if_pos (by omega), Option.getD_some, ih (l.length - 1 - i) (by omega)]
        rw [if_neg (by omega), if_pos (by omega), e2]
      · rw [if_neg e2, ← List.getD_eq_getElem?_getD, ih t ht]
        by_cases h : t < i ∨ l.length - 1 - i < t
        · rw [if_pos h, if_pos (by omega)]
        · rw [if_neg h, if_neg (by omega)]
theorem rvl_end (l : List (Nat × Bool)) {i : Nat} (h1 : 2 * i ≤ l.length) (h2 : l.length ≤ 2 * i + 1) : rvl l i = l.reverse := by
  apply List.ext_getElem?
  intro t
  by_cases ht : t < l.length
  · have h := rvl_at l i h1 t ht
    have e1 : (rvl l i)[t]? = some ((rvl l i).getD t (0, false)) := by
      rw [List.getD_eq_getElem?_getD, List.getElem?_eq_getElem (by rw [rvl_len]; exact ht)]; rfl
    have e2 : l.reverse[t]? = some (l.getD (l.length - 1 - t) (0, false)) := by
      rw [List.getElem?_reverse ht, List.getD_eq_getElem?_getD, List.getElem?_eq_getElem (by omega)]; rfl
    rw [e1, e2, h]
    split
    · rfl
    · have : l.length - 1 - t = t := by omega
      rw [this]
  · rw [List.getElem?_eq_none (by rw [rvl_len]; omega), List.getElem?_eq_none (by simp; omega)]
theorem SOwn.cellAt {w : World} {base g cap : Nat} {l : List (Nat × Bool)} (h : SOwn w base (some ⟨g, 0, none⟩) cap l) {i : Nat} (hi : i < l.length) : w.cell? ⟨g, i * 2, none⟩ = some (.int .i64 ((l.getD i (0, false)).1 : Int)) ∧ w.cell? ⟨g, i * 2 + 1, none⟩ = some (.bool (l.getD i (0, false)).2) := by
  have := h.row i (l.getD i (0, false)).1 (l.getD i (0, false)).2 (by rw [List.getD_eq_getElem?_getD, List.getElem?_eq_getElem hi]; rfl)
  simpa using this
theorem SOwn.frozen {w : World} {base g cap : Nat} {l : List (Nat × Bool)} (h : SOwn w base (some ⟨g, 0, none⟩) cap l) (j : Nat) : w.frozen? ⟨g, j, none⟩ = false := World.ownsRow.frozenAt h j
set_option maxRecDepth 100000 in
set_option maxHeartbeats 8000000 in
theorem reverse_any (base g c : Nat) (l : List (Nat × Bool)) (hn : l.length ≤ 1000) (w : World) (h : SOwn w base (some ⟨g, 0, none⟩) c l) :
    Calls Tryz.prog 71 #[.slice (some ⟨g, 0, none⟩) l.length c] w fun e w' => e = .returned (.tuple #[]) ∧ SOwn w' base (some ⟨g, 0, none⟩) c l.reverse ∧ w.grownBy w' (some g) := by
  obtain ⟨N, hN⟩ : ∃ N, l.length = N := ⟨_, rfl⟩
  have HN : Hid (l.length = N) := hN
  have hN1 : N ≤ 1000 := by omega
  simp only [hN]
  clear hN hn
  go_enter Tryz.func71, Tryz.ntmps71
  go_wp2_with fail
  go_loopw [2, 3] (fun z2 z3 wr => ∃ (i : Nat) (zj : Int), 2 * i ≤ N ∧ zj = (N : Int) - 1 - i ∧ z2 = .int .i64 (i : Int) ∧ z3 = .int .i64 zj ∧ SOwn wr base (some ⟨g, 0, none⟩) c (rvl l i) ∧ w.grownBy wr (some g)) (fun z2 _ _ => N - (intOf z2).toNat)
  case atStart => exact ⟨0, (N : Int) - 1, by omega, by omega, rfl, rfl, h, ⟨rfl, rfl, rfl, Nat.le_refl _, fun _ _ _ => rfl⟩⟩
  case round =>
    obtain ⟨i, zj, hi, hzj, rfl, rfl, O, hg⟩ := hrel
    by_cases hlt : (i : Int) < zj
    rotate_left
    · have hE : Hid (rvl l i = l.reverse) := rvl_end l (by rw [HN.out]; exact hi) (by rw [HN.out]; omega)
      clear hzj
      go_wp2
      simp [bodyPost, results, Tryz.results71, go_sem]
      rw [← hE.out]
      exact ⟨O, hg⟩
    obtain ⟨jn, rfl⟩ : ∃ jn : Nat, zj = (jn : Int) := ⟨zj.toNat, by omega⟩
    have hjn : N - 1 - i = jn := by omega
    have hlen := rvl_len l i
    have hij : i < jn := by omega
    have HJ : Hid (jn + i + 1 = N) := by show jn + i + 1 = N; omega
    have hjN : jn < N := by omega
    have hjl : jn < (rvl l i).length := by rw [hlen, HN.out]; exact hjN
    have hil : i < (rvl l i).length := by omega
    obtain ⟨p0, p1⟩ := O.cellAt hil
    obtain ⟨q0, q1⟩ := O.cellAt hjl
    have HR : Hid (rvl l (i + 1) = ((rvl l i).set i ((rvl l i).getD jn (0, false))).set jn ((rvl l i).getD i (0, false))) := by
      show rvl l (i + 1) = _
      simp only [rvl]
      rw [HN.out, hjn]
    obtain ⟨⟨e1, u1⟩, h1⟩ : ∃ x, (rvl l i).getD i (0, false) = x := ⟨_, rfl⟩
    obtain ⟨⟨e2, u2⟩, h2⟩ : ∃ x, (rvl l i).getD jn (0, false) = x := ⟨_, rfl⟩
    rw [h1] at p0 p1 HR
    rw [h2] at q0 q1 HR
    simp only at p0 p1 q0 q1
    have z0 := O.frozen (i * 2)
    have z1 := O.frozen (i * 2 + 1)
    have z2 := O.frozen (jn * 2)
    have z3 := O.frozen (jn * 2 + 1)
    have PK : Hid (SOwn wr base (some ⟨g, 0, none⟩) c (rvl l i) ∧ w.grownBy wr (some g)) := ⟨O, hg⟩
    have hi' : (i : Int) < (N : Int) := by omega
    have hj' : (jn : Int) < (N : Int) := by omega
    have n1 : ¬ (jn * 2 = i * 2) := by omega
    have n2 : ¬ (jn * 2 = i * 2 + 1) := by omega
    have n3 : ¬ (jn * 2 + 1 = i * 2) := by omega
    have n4 : ¬ (jn * 2 + 1 = i * 2 + 1) := by omega
    clear O hg h1 h2 hil hjl hlen hjn hzj
    go_wp2
    go_big_region
    obtain ⟨O, hg⟩ := PK.out
    have O2 := (O.put i e2 u2).put jn e1 u1
    rw [← HR.out] at O2
    have g2 := ((((hg.trans (gr_setCell wr g (i * 2) (.int .i64 (e2 : Int)))).trans (gr_setCell _ g (i * 2 + 1) (.bool u2))).trans (gr_setCell _ g (jn * 2) (.int .i64 (e1 : Int)))).trans (gr_setCell _ g (jn * 2 + 1) (.bool u1)))
    clear PK O hg p0 p1 q0 q1 z0 z1 z2 z3 n1 n2 n3 n4 hi' hj'
    have hJ := HJ.out
    go_wp2
    go_roundw
    case rel => exact ⟨i + 1, (jn : Int) - 1, by omega, by omega, by go_num, by go_num, O2, g2.trans ⟨rfl, rfl, rfl, Nat.le_refl _, fun _ _ _ => rfl⟩⟩
    case measure => simp [intOf]; omega

end Go.Proofs.YtokaechbmnbbiabGreat
