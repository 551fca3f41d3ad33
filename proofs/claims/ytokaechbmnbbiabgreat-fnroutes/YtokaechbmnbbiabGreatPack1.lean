/-
  Helpers, merged: Core, Small, In, Ok, OkSpec, OkP, Base, Ints, Rank, Mesh, Nbrs, Vis, TakeP.
-/
import Derived.Test.YtokaechbmnbbiabGreatRows
import Derived.WalkKit
import Derived.WalkSpells
import Derived.WalkLawsBesides
import Derived.Deep.RegionHeld3
import Derived.Deep.OwnRows
import Derived.Deep.QuietTactic
import Derived.BigQuiet
import Derived.Deep.DrawnRows
import Derived.ProofKit
import Derived.OpenShut
import Derived.ChangeOld
import Derived.Deep.Slices
import Derived.Deep.Strs
import Derived.Lib.SmallJoins
import Derived.Sort.QuietIn
/-
  What needs no function of the program: cells of an older world in a later one, numbers in bounds, two pairs in their order.
-/
set_option linter.unusedVariables false
set_option linter.unusedSimpArgs false
namespace Go.Proofs.YtokaechbmnbbiabGreat
open Go.RowKit

theorem lt_of_cell {w : World} {b o : Nat} {v : Value} (h : w.cell? ⟨b, o, none⟩ = some v) : b < w.heap.size := by
  by_cases hb : b < w.heap.size
  · exact hb
  · simp [World.cell?, Array.getElem?_eq_none (Nat.le_of_not_lt hb)] at h
theorem bcell {W w1 : World} (hb : Below W.heap.size W w1) : (∀ b o, b < W.heap.size → w1.cell? ⟨b, o, none⟩ = W.cell? ⟨b, o, none⟩) ∧ (∀ b o, b < W.heap.size → w1.frozen? ⟨b, o, none⟩ = W.frozen? ⟨b, o, none⟩) :=
  ⟨fun _ _ h => hb.cell h, fun _ _ h => hb.frozen h⟩
def inB (x lo hi : Int) : Bool := decide (lo ≤ x) && decide (x ≤ hi)
def upB (f t f' t' : Int) : Bool := decide (f < f') || (f == f' && decide (t < t'))
theorem upB_yes1 {f t f' t' : Int} (h : f < f') : upB f t f' t' = true := by simp [upB, h]
theorem upB_yes2 {f t f' t' : Int} (h : f ≤ f') (h' : f' ≤ f) (ht : t < t') : upB f t f' t' = true := by
  have : f = f' := by omega
  simp [upB, this, ht]
theorem upB_no1 {f t f' t' : Int} (h : f' < f) : upB f t f' t' = false := by simp [upB]; omega
theorem upB_no2 {f t f' t' : Int} (h : f ≤ f') (h' : f' ≤ f) (ht : t' ≤ t) : upB f t f' t' = false := by simp [upB]; omega
theorem ret_bool {a b : Bool} (h : a = b) : Ending.returned (.bool a) = .returned (.bool b) := by rw [h]
theorem unbox {w w' : World} {o : Obj} {B : Nat} (h : Below B (w.alloc o) w') (hB : w.heap.size ≤ B) : Below w.heap.size w w' :=
  ((Below.refl _ _).alloc (Nat.le_refl _) _).trans (h.mono hB)
theorem three_lt {w wr w1 : World} {o : Obj} {b : Nat} (h : Below (wr.alloc o).heap.size (wr.alloc o) w1) (h1 : w.heap.size < wr.heap.size) (h2 : b < wr.heap.size) : wr.heap.size < w1.heap.size ∧ w.heap.size < w1.heap.size ∧ b < w1.heap.size := by
  have := h.size; simp at this; omega
theorem keep_cell {W W' : World} {B b o : Nat} {v : Value} (hb : Below B W W') (hB : W.heap.size ≤ B) (h : W.cell? ⟨b, o, none⟩ = some v) : W'.cell? ⟨b, o, none⟩ = some v := by
  have := lt_of_cell h
  rw [hb.cell (by simp; omega)]; exact h
theorem below_next {B : Nat} {a W W' : World} (h : Below B a W) (hB : B ≤ a.heap.size) (hb : Below W.heap.size W W') : Below B a W' := h.trans (hb.mono (Nat.le_trans hB h.size))
theorem box2 {w W : World} {a0 a1 : Value} {t : TypeId} (h : Below (w.heap.size + 1) (w.alloc (.cells #[a0, a1] t)) W) :
    W.cell? ⟨w.heap.size, 0, none⟩ = some a0 ∧ W.cell? ⟨w.heap.size, 1, none⟩ = some a1 ∧ w.heap.size < W.heap.size := by
  refine ⟨by rw [h.cell (by simp)]; simp [go_sem], by rw [h.cell (by simp)]; simp [go_sem], by have := h.size; simp at this; omega⟩
theorem boxed {w W : World} {o : Obj} (h : Below (w.alloc o).heap.size (w.alloc o) W) : Below (w.heap.size + 1) (w.alloc o) W := h.mono (by simp)

end Go.Proofs.YtokaechbmnbbiabGreat

/-
  The small functions of the exact laws of chapter 1: what each call answers, and that nothing that was there has turned. No condition but those that each theorem names.
-/
set_option linter.unusedVariables false
set_option linter.unusedSimpArgs false
namespace Go.Proofs.YtokaechbmnbbiabGreat
open Go.RowKit


def ar (F T G : Nat → Int) (j : Nat) : Int := if j % 3 = 0 then F (j / 3) else if j % 3 = 1 then T (j / 3) else G (j / 3)
theorem ar0 (F T G : Nat → Int) (k : Nat) : ar F T G (k * 3) = F k := by
  unfold ar; rw [if_pos (by omega)]; congr 1; omega
theorem ar1 (F T G : Nat → Int) (k : Nat) : ar F T G (k * 3 + 1) = T k := by
  unfold ar; rw [if_neg (by omega), if_pos (by omega)]; congr 1; omega
theorem ar2 (F T G : Nat → Int) (k : Nat) : ar F T G (k * 3 + 2) = G k := by
  unfold ar; rw [if_neg (by omega), if_neg (by omega)]; congr 1; omega

def Row (w : World) (ao : Option Addr) (n : Nat) (F T G : Nat → Int) : Prop := ∀ k, k < n → ∃ b o, ao = some ⟨b, o, none⟩ ∧
  w.cell? ⟨b, o + k * 3, none⟩ = some (.int .i64 (F k)) ∧ w.cell? ⟨b, o + k * 3 + 1, none⟩ = some (.int .i64 (T k)) ∧ w.cell? ⟨b, o + k * 3 + 2, none⟩ = some (.int .i64 (G k))

theorem Row.below {w w' : World} {B : Nat} {ao : Option Addr} {n : Nat} {F T G : Nat → Int} (h : Row w ao n F T G) (hb : Below B w w') (hB : w.heap.size ≤ B) : Row w' ao n F T G := fun k hk => by
  obtain ⟨b, o, e, c0, c1, c2⟩ := h k hk
  have hlt := lt_of_cell c0
  exact ⟨b, o, e, by rw [hb.cell (by simp; omega)]; exact c0, by rw [hb.cell (by simp; omega)]; exact c1, by rw [hb.cell (by simp; omega)]; exact c2⟩

theorem Row.alloc {w : World} {ao : Option Addr} {n : Nat} {F T G : Nat → Int} (h : Row w ao n F T G) (o : Obj) : Row (w.alloc o) ao n F T G := h.below ((Below.refl w.heap.size w).alloc (Nat.le_refl _) o) (Nat.le_refl _)

def Own (w : World) (b n : Nat) (f : Nat → Int) : Prop := w.rowIs b 115 (n * 3) (fun j => .int .i64 (f j))

theorem Own.row {w : World} {b n : Nat} {F T G : Nat → Int} (h : Own w b n (ar F T G)) : Row w (some ⟨b, 0, none⟩) n F T G := fun k hk => by
  refine ⟨b, 0, rfl, ?_, ?_, ?_⟩
  · have := World.rowIs.cell h (i := k * 3) (by omega); rw [ar0] at this; simpa using this
  · have := World.rowIs.cell h (i := k * 3 + 1) (by omega); rw [ar1] at this; simpa using this
  · have := World.rowIs.cell h (i := k * 3 + 2) (by omega); rw [ar2] at this; simpa using this

theorem Own.below {w w' : World} {b n : Nat} {f : Nat → Int} (h : Own w b n f) (hb : Below w.heap.size w w') : Own w' b n f := World.rowIs.of_block h (hb.block b (World.rowIs.lt h))

theorem Tryz.infoArc : (Tryz.prog.info? 115).map (fun i => (i.zero, i.size, i.bytes)) = some (some (.agg #[.int .i64 0, .int .i64 0, .int .i64 0]), 3, 24) := by kernel_rfl

end Go.Proofs.YtokaechbmnbbiabGreat

/-
  Is a number within two others: the document's and the program's question. No condition.
-/
set_option linter.unusedVariables false
set_option linter.unusedSimpArgs false
namespace Go.Proofs.YtokaechbmnbbiabGreat
open Go.RowKit

theorem l1In_any (x lo hi : Int) (w : World) :
    Calls Tryz.prog 53 #[.int .i64 x, .int .i64 lo, .int .i64 hi] w fun e w' => e = .returned (.bool (inB x lo hi)) ∧ w' = w := by
  by_cases h1 : lo ≤ x <;> by_cases h2 : x ≤ hi <;>
  · go_enter Tryz.func53, Tryz.ntmps53
    go_wp2
    go_ret
    exact ⟨by simp [inB, h1, h2], rfl⟩
theorem placeOk_any (x p : Int) (w : World) :
    Calls Tryz.prog 66 #[.int .i64 x, .int .i64 p] w fun e w' => e = .returned (.bool (inB x 0 (p - 1))) ∧ w' = w := by
  by_cases h1 : 0 ≤ x <;> by_cases h2 : x < p <;>
  · go_enter Tryz.func66, Tryz.ntmps66
    go_wp2
    go_ret
    exact ⟨by simp [inB, h1]; omega, rfl⟩

end Go.Proofs.YtokaechbmnbbiabGreat

/-
  GraphOk: the document's and the program's, each held against one plain function of the arcs.
-/
set_option linter.unusedVariables false
set_option linter.unusedSimpArgs false
namespace Go.Proofs.YtokaechbmnbbiabGreat
open Go.RowKit

def arcB (f t g p : Int) : Bool := inB f 0 (p - 1) && (inB t 0 (p - 1) && (f != t && inB g 1 1000000))
def arcsB (p : Int) (F T G : Nat → Int) : Nat → Bool
  | 0 => true
  | k + 1 => arcsB p F T G k && (arcB (F k) (T k) (G k) p && (k == 0 || upB (F (k - 1)) (T (k - 1)) (F k) (T k)))
def graphB (p : Int) (n : Nat) (F T G : Nat → Int) : Bool := inB p 1 24 && (decide (n ≤ 100) && arcsB p F T G n)
set_option maxHeartbeats 800000 in
theorem l1Arc_any (f t g p : Int) (hp : 1 ≤ p) (hp' : p ≤ 24) (w : World) :
    Calls Tryz.prog 99 #[.agg #[.int .i64 f, .int .i64 t, .int .i64 g], .int .i64 p] w fun e w' => e = .returned (.bool (arcB f t g p)) ∧ Below w.heap.size w w' := by
  unfold arcB
  rcases Bool.eq_false_or_eq_true (inB f 0 (p - 1)) with h1 | h1
  · rcases Bool.eq_false_or_eq_true (inB t 0 (p - 1)) with h2 | h2
    · rcases Bool.eq_false_or_eq_true (f != t) with h3 | h3 <;>
      · go_enter Tryz.func99, Tryz.ntmps99
        go_wp2_with (go_at_call 53; refine (l1In_any _ _ _ _).mono ?_; rintro e w1 ⟨rfl, rfl⟩)
        go_ret
        exact ⟨by simp [h1, h2, h3], (Below.refl _ _).alloc (Nat.le_refl _) _⟩
    · go_enter Tryz.func99, Tryz.ntmps99
      go_wp2_with (go_at_call 53; refine (l1In_any _ _ _ _).mono ?_; rintro e w1 ⟨rfl, rfl⟩)
      go_ret
      exact ⟨by simp [h1, h2], (Below.refl _ _).alloc (Nat.le_refl _) _⟩
  · go_enter Tryz.func99, Tryz.ntmps99
    go_wp2_with (go_at_call 53; refine (l1In_any _ _ _ _).mono ?_; rintro e w1 ⟨rfl, rfl⟩)
    go_ret
    exact ⟨by simp [h1], (Below.refl _ _).alloc (Nat.le_refl _) _⟩

end Go.Proofs.YtokaechbmnbbiabGreat

/-
  The document's GraphOk answers 'graphB' of the map's places and arcs, for every map.
-/
set_option linter.unusedVariables false
set_option linter.unusedSimpArgs false
namespace Go.Proofs.YtokaechbmnbbiabGreat
open Go.RowKit

theorem arcsB_no {p : Int} {F T G : Nat → Int} {k : Nat} (h : arcB (F k) (T k) (G k) p = false) : ∀ n, k < n → arcsB p F T G n = false
  | 0, hk => by omega
  | n + 1, hk => by
    by_cases e : k = n
    · subst e; simp [arcsB, h]
    · simp [arcsB, arcsB_no h n (by omega)]
theorem arcsB_down {p : Int} {F T G : Nat → Int} {k : Nat} (h0 : 0 < k) (h : upB (F (k - 1)) (T (k - 1)) (F k) (T k) = false) : ∀ n, k < n → arcsB p F T G n = false
  | 0, hk => by omega
  | n + 1, hk => by
    by_cases e : k = n
    · subst e
      have : (k == 0) = false := by simp; omega
      simp [arcsB, h, this]
    · simp [arcsB, arcsB_down h0 h n (by omega)]
theorem arcsB_step {p : Int} {F T G : Nat → Int} {k : Nat} (h : arcsB p F T G k = true) (ha : arcB (F k) (T k) (G k) p = true) (hu : k = 0 ∨ upB (F (k - 1)) (T (k - 1)) (F k) (T k) = true) : arcsB p F T G (k + 1) = true := by
  rcases hu with hu | hu
  · subst hu; simp [arcsB, ha]
  · simp [arcsB, h, ha, hu]
set_option maxHeartbeats 1600000 in
theorem specGraphOk_any (p : Int) (ao : Option Addr) (n cap : Nat) (F T G : Nat → Int) (hn : n ≤ 1048576) (w : World) (hr : Row w ao n F T G) :
    Calls Tryz.prog 41 #[.agg #[.int .i64 p, .slice ao n cap]] w fun e w' => e = .returned (.bool (graphB p n F T G)) ∧ Below w.heap.size w w' := by
  by_cases h1 : inB p 1 24 = true
  rotate_left
  · have h1 : inB p 1 24 = false := by simpa using h1
    go_enter Tryz.func41, Tryz.ntmps41
    go_wp2_with (go_at_call 53; refine (l1In_any _ _ _ _).mono ?_; rintro e w1 ⟨rfl, rfl⟩)
    go_ret
    exact ⟨by simp [graphB, h1], (Below.refl _ _).alloc (Nat.le_refl _) _⟩
  by_cases h2 : n ≤ 100
  rotate_left
  · go_enter Tryz.func41, Tryz.ntmps41
    go_wp2_with (go_at_call 53; refine (l1In_any _ _ _ _).mono ?_; rintro e w1 ⟨rfl, rfl⟩)
    go_ret
    exact ⟨by simp [graphB, h1, h2], (Below.refl _ _).alloc (Nat.le_refl _) _⟩
  have hp : 1 ≤ p ∧ p ≤ 24 := by simpa [inB] using h1
  obtain ⟨hp1, hp2⟩ := hp
  go_enter Tryz.func41, Tryz.ntmps41
  go_wp2_with (go_at_call 53; refine (l1In_any _ _ _ _).mono ?_; rintro e w1 ⟨rfl, rfl⟩)
  go_loopw [3] (fun i wr => ∃ k : Nat, k ≤ n ∧ i = .int .i64 k ∧ arcsB p F T G k = true ∧ Below (w.heap.size + 1) (w.alloc (.cells #[.int .i64 p, .slice ao n cap] 26)) wr) (fun i _ => n - (intOf i).toNat)
  case atStart => exact ⟨0, Nat.zero_le _, rfl, rfl, Below.refl _ _⟩
  case round =>
    obtain ⟨k, hk, rfl, hok, hbel⟩ := hrel
    have g0 : wr.cell? ⟨w.heap.size, 0, none⟩ = some (.int .i64 p) := by rw [hbel.cell (by simp)]; simp [go_sem]
    have g1 : wr.cell? ⟨w.heap.size, 1, none⟩ = some (.slice ao n cap) := by rw [hbel.cell (by simp)]; simp [go_sem]
    have hsz : w.heap.size < wr.heap.size := by have := hbel.size; simp at this; omega
    have HOK : Hid (arcsB p F T G k = true) := hok
    clear hok
    by_cases hlt : k < n
    rotate_left
    · have hkn : k = n := by omega
      subst hkn
      go_wp2
      go_ret
      exact ⟨ret_bool (by simp [graphB, h1, h2, HOK.out]), unbox hbel (by omega)⟩
    obtain ⟨b, o, hao, c0, c1, c2⟩ := ((hr.alloc _).below hbel (by simp)) k hlt
    subst hao
    rcases Bool.eq_false_or_eq_true (arcB (F k) (T k) (G k) p) with ha | ha
    rotate_left
    · go_wp2_with (go_at_call 99; refine (l1Arc_any _ _ _ _ hp1 hp2 _).mono ?_; rintro e w1 ⟨rfl, hb1⟩)
      go_ret
      exact ⟨ret_bool (by simp [graphB, h1, arcsB_no ha n hlt]), unbox ((hbel.alloc (by omega) _).trans (hb1.mono (by simp; omega))) (by omega)⟩
    by_cases h0 : 0 < k
    rotate_left
    · go_wp2_with (go_at_call 99; refine (l1Arc_any _ _ _ _ hp1 hp2 _).mono ?_; rintro e w1 ⟨rfl, hb1⟩)
      go_roundw
      case rel => exact ⟨k + 1, by omega, by go_num, arcsB_step HOK.out ha (Or.inl (by omega)), (hbel.alloc (by omega) _).trans (hb1.mono (by simp; omega))⟩
      case measure => simp [intOf]; omega
    have hbw : b < wr.heap.size := lt_of_cell c0
    obtain ⟨b', o', hao', d0, d1, d2⟩ := ((hr.alloc _).below hbel (by simp)) (k - 1) (by omega)
    simp only [Option.some.injEq, Addr.mk.injEq, and_true] at hao'
    obtain ⟨rfl, rfl⟩ := hao'
    rcases Int.lt_trichotomy (F (k - 1)) (F k) with hF | hF | hF
    · go_wp2_with (go_at_call 99; refine (l1Arc_any _ _ _ _ hp1 hp2 _).mono ?_; rintro e w1 ⟨rfl, hb1⟩; obtain ⟨hc, hf⟩ := bcell hb1; obtain ⟨hz, hz1, hz2⟩ := three_lt hb1 hsz hbw)
      go_roundw
      case rel => exact ⟨k + 1, by omega, by go_num, arcsB_step HOK.out ha (Or.inr (upB_yes1 hF)), ((hbel.alloc (by omega) _).trans (hb1.mono (by simp; omega))).alloc (by omega) _⟩
      case measure => simp [intOf]; omega
    · have hF1 : F (k - 1) ≤ F k := by omega
      have hF2 : F k ≤ F (k - 1) := by omega
      clear hF
      by_cases hT : T k ≤ T (k - 1)
      · go_wp2_with (go_at_call 99; refine (l1Arc_any _ _ _ _ hp1 hp2 _).mono ?_; rintro e w1 ⟨rfl, hb1⟩; obtain ⟨hc, hf⟩ := bcell hb1; obtain ⟨hz, hz1, hz2⟩ := three_lt hb1 hsz hbw)
        go_ret
        exact ⟨ret_bool (by simp [graphB, h1, arcsB_down h0 (upB_no2 hF1 hF2 hT) n hlt]), unbox (((hbel.alloc (by omega) _).trans (hb1.mono (by simp; omega))).alloc (by omega) _) (by omega)⟩
      · go_wp2_with (go_at_call 99; refine (l1Arc_any _ _ _ _ hp1 hp2 _).mono ?_; rintro e w1 ⟨rfl, hb1⟩; obtain ⟨hc, hf⟩ := bcell hb1; obtain ⟨hz, hz1, hz2⟩ := three_lt hb1 hsz hbw)
        go_roundw
        case rel => exact ⟨k + 1, by omega, by go_num, arcsB_step HOK.out ha (Or.inr (upB_yes2 hF1 hF2 (by omega))), ((hbel.alloc (by omega) _).trans (hb1.mono (by simp; omega))).alloc (by omega) _⟩
        case measure => simp [intOf]; omega
    · go_wp2_with (go_at_call 99; refine (l1Arc_any _ _ _ _ hp1 hp2 _).mono ?_; rintro e w1 ⟨rfl, hb1⟩; obtain ⟨hc, hf⟩ := bcell hb1; obtain ⟨hz, hz1, hz2⟩ := three_lt hb1 hsz hbw)
      go_ret
      exact ⟨ret_bool (by simp [graphB, h1, arcsB_down h0 (upB_no1 hF) n hlt]), unbox (((hbel.alloc (by omega) _).trans (hb1.mono (by simp; omega))).alloc (by omega) _) (by omega)⟩

end Go.Proofs.YtokaechbmnbbiabGreat

/-
  What a map that is as told says of its arcs: the plain part.
-/
set_option linter.unusedVariables false
set_option linter.unusedSimpArgs false
namespace Go.Proofs.YtokaechbmnbbiabGreat
open Go.RowKit Go.Maps

theorem graphB_arcs {p : Int} {n : Nat} {F T G : Nat → Int} (h : graphB p n F T G = true) : n ≤ 100 ∧ arcsB p F T G n = true := by
  simp [graphB] at h; exact ⟨h.2.1, h.2.2⟩
theorem arcsB_each {p : Int} {F T G : Nat → Int} : ∀ n, arcsB p F T G n = true → ∀ k, k < n → arcB (F k) (T k) (G k) p = true ∧ (0 < k → upB (F (k - 1)) (T (k - 1)) (F k) (T k) = true)
  | 0, _, k, hk => by omega
  | n + 1, h, k, hk => by
    simp [arcsB] at h
    by_cases e : k = n
    · subst e; exact ⟨h.2.1, fun h0 => by rcases h.2.2 with h' | h'; omega; exact h'⟩
    · exact arcsB_each n h.1 k (by omega)
theorem upB_iff {f t f' t' : Int} : upB f t f' t' = true ↔ f < f' ∨ (f = f' ∧ t < t') := by simp [upB]
theorem rising {p : Int} {F T G : Nat → Int} {n : Nat} (h : arcsB p F T G n = true) (i : Nat) : ∀ j, i < j → j < n → F i < F j ∨ (F i = F j ∧ T i < T j)
  | 0, hi, _ => by omega
  | j + 1, hi, hj => by
    have hu := upB_iff.1 ((arcsB_each n h (j + 1) hj).2 (by omega))
    simp at hu
    by_cases e : i = j
    · subst e; exact hu
    · have := rising h i j (by omega) (by omega); omega
theorem unique {p : Int} {F T G : Nat → Int} {n : Nat} (h : arcsB p F T G n = true) {i j : Nat} (hi : i < n) (hj : j < n) (hF : F i = F j) (hT : T i = T j) : i = j := by
  rcases Nat.lt_trichotomy i j with hlt | e | hlt
  · have := rising h i j hlt hj; omega
  · exact e
  · have := rising h j i hlt hi; omega
theorem graphB_p {p : Int} {n : Nat} {F T G : Nat → Int} (h : graphB p n F T G = true) : inB p 1 24 = true := by
  simp [graphB] at h; exact h.1
theorem ret_i64 {a b : Int} (h : a = b) : Ending.returned (.int .i64 a) = .returned (.int .i64 b) := by rw [h]

end Go.Proofs.YtokaechbmnbbiabGreat

/-
  What every law's shell asks of the program as a whole, and the size of a number.
-/
set_option linter.unusedVariables false
set_option linter.unusedSimpArgs false
namespace Go.Proofs.YtokaechbmnbbiabGreat
open Go.ChangeShapes Go.WideShapes Go.ChangeAt Go.RowKit Go.Deep Go.Joins

theorem Tryz.own : ownKnob Tryz.prog.godebug = none := by kernel_rfl
theorem Tryz.laidOut : laidOutB Tryz.prog = true := by kernel_rfl
theorem Tryz.cellsInt : Tryz.prog.cellsOf 2 = 1 := by kernel_rfl

theorem gr_setCell (w : World) (b o : Nat) (v : Value) : w.grownBy (w.setCell ⟨b, o, none⟩ v) (some b) :=
  ⟨rfl, rfl, rfl, by simp [World.setCell], fun k _ hne => Below.heap_setCell _ _ _ _ (fun e => hne (by rw [e]))⟩
theorem gr_below {w w' : World} {b B : Nat} (h : w.grownBy w' (some b)) (hb : B ≤ b) (hB : B ≤ w.heap.size) : Below B w w' :=
  ⟨h.os, h.tape, h.output, h.size, fun k hk => h.block k (by omega) (fun e => by simp at e; omega)⟩

end Go.Proofs.YtokaechbmnbbiabGreat

/-
  Lists of numbers: read behind an address, of the call's own, copied, held against each other, marked. For every list of at most 2^20 numbers.
-/
set_option linter.unusedVariables false
set_option linter.unusedSimpArgs false
namespace Go.Proofs.YtokaechbmnbbiabGreat
open Go.RowKit
attribute [local go_sem ↓] Go.wp_at_zero Go.wp_at_succ

def IRow (w : World) (ao : Option Addr) (n : Nat) (f : Nat → Int) : Prop := ∀ k, k < n → ∃ b o, ao = some ⟨b, o, none⟩ ∧ w.cell? ⟨b, o + k, none⟩ = some (.int .i64 (f k))
theorem IRow.below {w w' : World} {B : Nat} {ao : Option Addr} {n : Nat} {f : Nat → Int} (h : IRow w ao n f) (hb : Below B w w') (hB : w.heap.size ≤ B) : IRow w' ao n f := fun k hk => by
  obtain ⟨b, o, e, c0⟩ := h k hk
  have hlt := lt_of_cell c0
  exact ⟨b, o, e, by rw [hb.cell (by simp; omega)]; exact c0⟩
theorem IRow.alloc {w : World} {ao : Option Addr} {n : Nat} {f : Nat → Int} (h : IRow w ao n f) (o : Obj) : IRow (w.alloc o) ao n f := h.below ((Below.refl w.heap.size w).alloc (Nat.le_refl _) o) (Nat.le_refl _)
theorem IRow.congr {w : World} {ao : Option Addr} {n : Nat} {f g : Nat → Int} (h : IRow w ao n f) (e : ∀ k, k < n → f k = g k) : IRow w ao n g := fun k hk => by
  obtain ⟨b, o, h1, h2⟩ := h k hk
  exact ⟨b, o, h1, by rw [h2, e k hk]⟩

def IHas (w : World) (b n : Nat) (f : Nat → Int) : Prop := ∃ cur : Array Value, w.heap[b]? = some (.cells cur 2 (0, 0)) ∧ n ≤ cur.size ∧ ∀ j, j < n → cur[j]? = some (.int .i64 (f j))
theorem IHas.cell {w : World} {b n : Nat} {f : Nat → Int} (h : IHas w b n f) {j : Nat} (hj : j < n) : w.cell? ⟨b, j, none⟩ = some (.int .i64 (f j)) := by
  obtain ⟨c, hb, _, hc⟩ := h
  simp [World.cell?, hb, hc j hj]
theorem IHas.frozen {w : World} {b n : Nat} {f : Nat → Int} (h : IHas w b n f) (j : Nat) : w.frozen? ⟨b, j, none⟩ = false := by
  obtain ⟨c, hb, _, _⟩ := h
  simp [World.frozen?, hb]
theorem IHas.lt {w : World} {b n : Nat} {f : Nat → Int} (h : IHas w b n f) : b < w.heap.size := by
  obtain ⟨c, hb, _, _⟩ := h
  exact (Array.getElem?_eq_some_iff.1 hb).1
theorem IHas.of_block {w w' : World} {b n : Nat} {f : Nat → Int} (h : IHas w b n f) (e : w'.heap[b]? = w.heap[b]?) : IHas w' b n f := by
  obtain ⟨c, hb, hn, hc⟩ := h
  exact ⟨c, e.trans hb, hn, hc⟩
theorem IHas.congr {w : World} {b n : Nat} {f g : Nat → Int} (h : IHas w b n f) (e : ∀ j, j < n → f j = g j) : IHas w b n g := by
  obtain ⟨c, hb, hn, hc⟩ := h
  exact ⟨c, hb, hn, fun j hj => by rw [hc j hj, e j hj]⟩
theorem IHas.set {w : World} {b n : Nat} {f : Nat → Int} (h : IHas w b n f) (i : Nat) (v : Int) : IHas (w.setCell ⟨b, i, none⟩ (.int .i64 v)) b n (fun j => if j = i then v else f j) := by
  obtain ⟨c, hb, hn, hc⟩ := h
  refine ⟨c.setIfInBounds i (.int .i64 v), ?_, by simpa using hn, fun j hj => ?_⟩
  · simp [World.setCell, Array.getElem?_modify, hb]
  · rw [Array.getElem?_setIfInBounds]
    by_cases e : j = i
    · subst e
      simp; omega
    · rw [if_neg (fun h => e h.symm)]
      show c[j]? = some (.int .i64 (if j = i then v else f j))
      rw [if_neg e]
      exact hc j hj
theorem IHas.row {w : World} {b n : Nat} {f : Nat → Int} (h : IHas w b n f) : IRow w (some ⟨b, 0, none⟩) n f := fun k hk => ⟨b, 0, rfl, by simpa using h.cell hk⟩
theorem IHas.below {w w' : World} {b n B : Nat} {f : Nat → Int} (h : IHas w b n f) (hb : Below B w w') (hB : b < B) : IHas w' b n f := h.of_block (hb.block b hB)
theorem IHas.grown {w w' : World} {b n : Nat} {f : Nat → Int} {row : Option Nat} (h : IHas w b n f) (hg : w.grownBy w' row) (hne : some b ≠ row) : IHas w' b n f := h.of_block (hg.block b h.lt hne)
theorem IHas.of_row {w : World} {b n : Nat} {f : Nat → Int} (h : w.rowIs b 2 n (fun j => .int .i64 (f j))) : IHas w b n f := by
  obtain ⟨c, hb, hn, hc⟩ := h
  exact ⟨c, hb, by omega, hc⟩

theorem Tryz.infoInt : (Tryz.prog.info? 2).map (fun i => (i.zero, i.size, i.bytes)) = some (some (.int .i64 0), 1, 8) := by kernel_rfl
theorem make_ints (n : Nat) (hn : n ≤ 1048576) (w : World) :
    (Instr.makeSlice 27 (.int .i64 (n : Int)) (.int .i64 (n : Int))).run Tryz.prog w = .ok (.slice (some ⟨w.heap.size, 0, none⟩) n n) (w.alloc (.cells (madeCells #[.int .i64 0] n) 2)) :=
  run_make_row' 27 2 _ 8 Tryz.underlying27 Tryz.infoInt rfl .i64 .i64 n (by omega) (by omega) w
theorem made_ints (w : World) (n : Nat) : IHas (w.alloc (.cells (madeCells #[.int .i64 0] n) 2)) w.heap.size n (fun _ => 0) := IHas.of_row (World.rowIs_made w _ n _)





end Go.Proofs.YtokaechbmnbbiabGreat

/-
  Ranks, the plain part: which numbers were seen, each number's place in a list, and that a list of n numbers below n, none twice, has them all.
-/
set_option linter.unusedVariables false
set_option linter.unusedSimpArgs false
namespace Go.Proofs.YtokaechbmnbbiabGreat

def sn (P : Nat → Int) : Nat → Nat → Bool
  | 0, _ => false
  | k + 1, q => (P k == (q : Int)) || sn P k q
theorem sn_succ (P : Nat → Int) (k q : Nat) : sn P (k + 1) q = ((P k == (q : Int)) || sn P k q) := rfl
def rk (P : Nat → Int) (z : Int) : Nat → Nat → Int
  | 0, _ => z
  | k + 1, q => if P k = (q : Int) then (k : Int) else rk P z k q
def eachB (m : Nat) (P : Nat → Int) : Nat → Bool
  | 0 => true
  | k + 1 => eachB m P k && (inB (P k) 0 ((m : Int) - 1) && !sn P k (P k).toNat)

theorem rk_sn (P : Nat → Int) : ∀ k q, (sn P k q = true ↔ 0 ≤ rk P (-1) k q)
  | 0, q => by simp [sn, rk]
  | k + 1, q => by
    unfold sn rk
    have := rk_sn P k q
    by_cases h : P k = (q : Int)
    · simp [h]
    · simp [h, this]
theorem rk_same (P : Nat → Int) (z z' : Int) : ∀ k q, sn P k q = true → rk P z k q = rk P z' k q
  | 0, q, h => by simp [sn] at h
  | k + 1, q, h => by
    unfold sn at h
    unfold rk
    by_cases e : P k = (q : Int)
    · simp [e]
    · rw [if_neg e, if_neg e]
      exact rk_same P z z' k q (by simpa [e] using h)
theorem rk_hi (P : Nat → Int) : ∀ k q, rk P (-1) k q < (k : Int) ∧ -1 ≤ rk P (-1) k q
  | 0, q => by simp [rk]
  | k + 1, q => by
    unfold rk
    have := rk_hi P k q
    split <;> omega
theorem eachB_le {m : Nat} {P : Nat → Int} : ∀ n, eachB m P n = true → ∀ k, k ≤ n → eachB m P k = true
  | 0, h, k, hk => by
    have : k = 0 := by omega
    subst this; rfl
  | n + 1, h, k, hk => by
    by_cases e : k = n + 1
    · subst e; exact h
    · simp [eachB] at h
      exact eachB_le n h.1 k (by omega)
theorem eachB_no {m : Nat} {P : Nat → Int} {k n : Nat} (h : eachB m P (k + 1) = false) (hk : k < n) : eachB m P n = false := by
  cases hn : eachB m P n
  · rfl
  · rw [eachB_le n hn (k + 1) (by omega)] at h; cases h

theorem sn_at {P : Nat → Int} {k q : Nat} (h : P k = (q : Int)) (j : Nat) : sn P (k + 1) j = if j = q then true else sn P k j := by
  rw [sn_succ, h]
  by_cases e : j = q
  · simp [e]
  · have h1 : ((q : Int) == (j : Int)) = false := by rw [Bool.eq_false_iff]; simp; omega
    rw [h1, if_neg e]; rfl
theorem rk_at {P : Nat → Int} {z : Int} {k q : Nat} (h : P k = (q : Int)) (j : Nat) : rk P z (k + 1) j = if j = q then (k : Int) else rk P z k j := by
  show (if P k = (j : Int) then (k : Int) else rk P z k j) = _
  by_cases e : j = q
  · rw [if_pos e, if_pos (by omega)]
  · rw [if_neg e, if_neg (by omega)]
theorem eachB_at {m : Nat} {P : Nat → Int} {k q : Nat} (he : eachB m P k = true) (h : P k = (q : Int)) (hi : inB (P k) 0 ((m : Int) - 1) = true) : eachB m P (k + 1) = !sn P k q := by
  show (eachB m P k && (inB (P k) 0 ((m : Int) - 1) && !sn P k (P k).toNat)) = _
  rw [he, hi, h]
  simp

def cntB (f : Nat → Bool) : Nat → Nat
  | 0 => 0
  | n + 1 => cntB f n + (if f n then 1 else 0)
theorem cntB_le (f : Nat → Bool) : ∀ n, cntB f n ≤ n
  | 0 => Nat.le_refl _
  | n + 1 => by unfold cntB; have := cntB_le f n; split <;> omega
theorem cntB_congr {f g : Nat → Bool} : ∀ n, (∀ q, q < n → f q = g q) → cntB f n = cntB g n
  | 0, _ => rfl
  | n + 1, h => by unfold cntB; rw [cntB_congr n (fun q hq => h q (by omega)), h n (by omega)]
theorem cntB_full {f : Nat → Bool} : ∀ n, cntB f n = n → ∀ q, q < n → f q = true
  | 0, _, q, hq => by omega
  | n + 1, h, q, hq => by
    unfold cntB at h
    have hl := cntB_le f n
    cases hf : f n
    · rw [hf] at h; simp at h; omega
    · rw [hf] at h
      simp at h
      by_cases e : q = n
      · subst e; exact hf
      · exact cntB_full n (by omega) q (by omega)
theorem cntB_set {f g : Nat → Bool} {i : Nat} : ∀ n, i < n → f i = false → (∀ q, q < n → g q = (q == i || f q)) → cntB g n = cntB f n + 1
  | 0, hi, _, _ => by omega
  | n + 1, hi, h0, hg => by
    unfold cntB
    rw [hg n (by omega)]
    by_cases e : i = n
    · subst e
      have e2 : cntB g i = cntB f i := cntB_congr i (fun q hq => by
        rw [hg q (by omega)]
        have : q ≠ i := by omega
        simp [this])
      rw [e2, h0]
      simp
    · have : n ≠ i := fun h => e h.symm
      rw [cntB_set n (by omega) h0 (fun q hq => hg q (by omega))]
      simp [this]; omega
theorem cntB_less {f : Nat → Bool} {i n : Nat} (hi : i < n) (h : f i = false) : cntB f n < n := by
  have h1 := cntB_le f n
  by_cases e : cntB f n = n
  · have := cntB_full n e i hi
    rw [h] at this; cases this
  · omega

theorem cnt_sn {m : Nat} {P : Nat → Int} : ∀ k, eachB m P k = true → cntB (sn P k) m = k
  | 0, _ => by
    have : ∀ n, cntB (sn P 0) n = 0 := fun n => by
      induction n with
      | zero => rfl
      | succ n ih => unfold cntB; rw [ih]; simp [sn]
    exact this m
  | k + 1, h => by
    simp [eachB, inB] at h
    obtain ⟨h1, ⟨h2, h3⟩, h4⟩ := h
    have := cnt_sn k h1
    have e := cntB_set (f := sn P k) (g := sn P (k + 1)) (i := (P k).toNat) m (by omega) h4 (fun q hq => by
      rw [sn_succ]
      congr 1
      rw [Bool.eq_iff_iff, beq_iff_eq, beq_iff_eq]
      omega)
    omega
theorem each_all {n : Nat} {P : Nat → Int} (h : eachB n P n = true) : ∀ q, q < n → sn P n q = true := cntB_full n (cnt_sn n h)

def okR (n : Nat) (P : Nat → Int) : Bool := decide (1 ≤ n) && (decide (n ≤ 24) && eachB n P n)
def lenR (n : Nat) (P : Nat → Int) : Nat := if okR n P then n else 0
end Go.Proofs.YtokaechbmnbbiabGreat

/-
  Who is whose neighbour, the plain part: the square of the arcs, a place that is taken away, which goes next.
-/
set_option linter.unusedVariables false
set_option linter.unusedSimpArgs false
namespace Go.Proofs.YtokaechbmnbbiabGreat

def upd (B : Nat → Nat → Bool) (x y : Nat) (v : Bool) : Nat → Nat → Bool := fun x' y' => if x' = x ∧ y' = y then v else B x' y'
def upd2 (B : Nat → Nat → Bool) (x y : Nat) (v : Bool) : Nat → Nat → Bool := upd (upd B x y v) y x v
theorem upd2_at (B : Nat → Nat → Bool) (x y : Nat) (v : Bool) (x' y' : Nat) : upd2 B x y v x' y' = if (x' = x ∧ y' = y) ∨ (x' = y ∧ y' = x) then v else B x' y' := by
  unfold upd2 upd
  by_cases h1 : x' = y ∧ y' = x
  · rw [if_pos h1, if_pos (Or.inr h1)]
  · rw [if_neg h1]
    by_cases h2 : x' = x ∧ y' = y
    · rw [if_pos h2, if_pos (Or.inl h2)]
    · rw [if_neg h2, if_neg (fun h => by rcases h with h | h; exact h2 h; exact h1 h)]
def nbA (F T : Nat → Int) : Nat → Nat → Nat → Bool
  | 0 => fun _ _ => false
  | k + 1 => upd2 (nbA F T k) (F k).toNat (T k).toNat true
def tk (B : Nat → Nat → Bool) (a : Nat) : Nat → Nat → Bool := fun x y => if x = a ∨ y = a then false else (B x y || (B a x && (B a y && x != y)))
def Fair (B : Nat → Nat → Bool) : Prop := (∀ x y, B x y = B y x) ∧ ∀ x, B x x = false
theorem fair_nbA {F T : Nat → Int} : ∀ n, (∀ k, k < n → (F k).toNat ≠ (T k).toNat) → Fair (nbA F T n)
  | 0, _ => ⟨fun _ _ => rfl, fun _ => rfl⟩
  | n + 1, h => by
    obtain ⟨h1, h2⟩ := fair_nbA n (fun k hk => h k (by omega))
    have hne := h n (by omega)
    refine ⟨fun x y => ?_, fun x => ?_⟩
    · show upd2 _ _ _ _ _ _ = upd2 _ _ _ _ _ _
      rw [upd2_at, upd2_at, h1 x y]
      by_cases e : (x = (F n).toNat ∧ y = (T n).toNat) ∨ (x = (T n).toNat ∧ y = (F n).toNat)
      · rw [if_pos e, if_pos (by omega)]
      · rw [if_neg e, if_neg (by omega)]
    · show upd2 _ _ _ _ _ _ = _
      rw [upd2_at, if_neg (by omega), h2]
theorem fair_tk {B : Nat → Nat → Bool} (h : Fair B) (a : Nat) : Fair (tk B a) := by
  refine ⟨fun x y => ?_, fun x => ?_⟩
  · unfold tk
    by_cases e : x = a ∨ y = a
    · rw [if_pos e, if_pos e.symm]
    · rw [if_neg e, if_neg (fun h => e h.symm), h.1 x y]
      have : (x != y) = (y != x) := by
        rw [Bool.eq_iff_iff, bne_iff_ne, bne_iff_ne]
        exact ⟨fun h e => h e.symm, fun h e => h e.symm⟩
      rw [this]
      cases B a x <;> cases B a y <;> simp
  · unfold tk
    split
    · rfl
    · rw [h.2]; simp

def pick (p : Nat) (B : Nat → Nat → Bool) (gone : Nat → Bool) : Nat → Nat × Nat
  | 0 => (0, p)
  | k + 1 => if gone k then pick p B gone k else if cntB (B k) p < (pick p B gone k).2 then (k, cntB (B k) p) else pick p B gone k
def noneB (gone : Nat → Bool) : Nat → Bool
  | 0 => true
  | k + 1 => noneB gone k && gone k
theorem noneB_all {gone : Nat → Bool} : ∀ k, noneB gone k = true → cntB gone k = k
  | 0, _ => rfl
  | k + 1, h => by
    simp [noneB] at h
    unfold cntB
    rw [noneB_all k h.1, h.2]; rfl
theorem pick_none {p : Nat} {B : Nat → Nat → Bool} {gone : Nat → Bool} : ∀ k, noneB gone k = true → pick p B gone k = (0, p)
  | 0, _ => rfl
  | k + 1, h => by
    simp [noneB] at h
    unfold pick
    rw [if_pos h.2, pick_none k h.1]
theorem pick_le {p : Nat} {B : Nat → Nat → Bool} {gone : Nat → Bool} : ∀ k, (pick p B gone k).2 ≤ p
  | 0 => Nat.le_refl _
  | k + 1 => by
    unfold pick
    have := pick_le (p := p) (B := B) (gone := gone) k
    split
    · exact this
    · split
      · exact cntB_le _ _
      · exact this
theorem pick_some {p : Nat} {B : Nat → Nat → Bool} {gone : Nat → Bool} (hB : Fair B) : ∀ k, k ≤ p → noneB gone k = false → (pick p B gone k).1 < k ∧ gone (pick p B gone k).1 = false ∧ (pick p B gone k).2 < p
  | 0, _, h => by simp [noneB] at h
  | k + 1, hk, h => by
    have hc : cntB (B k) p < p := cntB_less (i := k) (by omega) (hB.2 k)
    unfold pick
    cases hg : gone k
    · simp only [Bool.false_eq_true, if_false]
      split
      · exact ⟨by simp, hg, hc⟩
      · next hlt =>
        cases hn : noneB gone k
        · have := pick_some (p := p) hB k (Nat.le_of_succ_le hk) hn
          exact ⟨by omega, this.2⟩
        · rw [pick_none k hn] at hlt
          simp at hlt
          omega
    · simp only [if_true]
      have : noneB gone k = false := by
        cases hn : noneB gone k
        · rfl
        · simp [noneB, hn, hg] at h
      have := pick_some (p := p) hB k (Nat.le_of_succ_le hk) this
      exact ⟨by omega, this.2⟩

def goneU (gone : Nat → Bool) (a : Nat) : Nat → Bool := fun q => if q = a then true else gone q
def run3 (p : Nat) (B : Nat → Nat → Bool) : Nat → (Nat → Nat → Bool) × (Nat → Bool) × (Nat → Int)
  | 0 => (B, fun _ => false, fun _ => 0)
  | k + 1 =>
    let s := run3 p B k
    let a := (pick p s.1 s.2.1 p).1
    (tk s.1 a, goneU s.2.1 a, fun j => if j = k then (a : Int) else s.2.2 j)
theorem run3_fair {p : Nat} {B : Nat → Nat → Bool} (h : Fair B) : ∀ k, Fair (run3 p B k).1
  | 0 => h
  | k + 1 => fair_tk (run3_fair h k) _
theorem run3_gone {p : Nat} {B : Nat → Nat → Bool} (h : Fair B) : ∀ k, k ≤ p → cntB (run3 p B k).2.1 p = k ∧ (k < p → noneB (run3 p B k).2.1 p = false)
  | 0, hk => by
    have h0 : ∀ m, cntB (fun _ => false) m = 0 := fun m => by
      induction m with
      | zero => rfl
      | succ m ih => unfold cntB; rw [ih]; rfl
    refine ⟨h0 p, fun hp => ?_⟩
    cases hn : noneB (run3 p B 0).2.1 p
    · rfl
    · have := noneB_all p hn
      have := h0 p
      simp only [run3] at *
      omega
  | k + 1, hk => by
    obtain ⟨h1, h2⟩ := run3_gone (p := p) h k (Nat.le_of_succ_le hk)
    have h3 := pick_some (p := p) (run3_fair (p := p) h k) p (Nat.le_refl _) (h2 (by omega))
    have e : cntB (run3 p B (k + 1)).2.1 p = k + 1 := by
      have := cntB_set (f := (run3 p B k).2.1) (g := (run3 p B (k + 1)).2.1) p h3.1 h3.2.1 (fun q hq => by
        show goneU _ _ q = _
        unfold goneU
        by_cases e : q = (pick p (run3 p B k).1 (run3 p B k).2.1 p).1
        · rw [if_pos e]; simp [e]
        · rw [if_neg e]; simp [e])
      omega
    refine ⟨e, fun hp => ?_⟩
    cases hn : noneB (run3 p B (k + 1)).2.1 p
    · rfl
    · have := noneB_all p hn
      omega
theorem run3_place {p : Nat} {B : Nat → Nat → Bool} (h : Fair B) {k : Nat} (hk : k < p) : (pick p (run3 p B k).1 (run3 p B k).2.1 p).1 < p :=
  (pick_some (run3_fair h k) p (Nat.le_refl _) ((run3_gone h k (by omega)).2 hk)).1

end Go.Proofs.YtokaechbmnbbiabGreat

/-
  The neighbours of a place as a list, the plain part: how many come ahead of a place, which is the i-th; the square while a place is being taken away.
-/
set_option linter.unusedVariables false
set_option linter.unusedSimpArgs false
namespace Go.Proofs.YtokaechbmnbbiabGreat

def nf (f : Nat → Bool) : Nat → (Nat → Int)
  | 0 => fun _ => 0
  | k + 1 => if f k then (fun j => if j = cntB f k then (k : Int) else nf f k j) else nf f k
theorem cntB_mono (f : Nat → Bool) {a b : Nat} (h : a ≤ b) : cntB f a ≤ cntB f b := by
  induction b with
  | zero => have : a = 0 := by omega
            subst this; exact Nat.le_refl _
  | succ b ih =>
    by_cases e : a = b + 1
    · subst e; exact Nat.le_refl _
    · have h1 := ih (by omega)
      have h2 : cntB f b ≤ cntB f (b + 1) := by
        show cntB f b ≤ cntB f b + _
        omega
      omega
theorem cntB_succ {f : Nat → Bool} {k : Nat} (h : f k = true) : cntB f (k + 1) = cntB f k + 1 := by simp [cntB, h]
theorem cntB_same {f : Nat → Bool} {k : Nat} (h : f k = false) : cntB f (k + 1) = cntB f k := by simp [cntB, h]
theorem cntB_inj {f : Nat → Bool} {x y : Nat} (hx : f x = true) (hy : f y = true) (h : cntB f x = cntB f y) : x = y := by
  rcases Nat.lt_trichotomy x y with hl | e | hl
  · have h1 := cntB_mono f (show x + 1 ≤ y by omega)
    rw [cntB_succ hx] at h1; omega
  · exact e
  · have h1 := cntB_mono f (show y + 1 ≤ x by omega)
    rw [cntB_succ hy] at h1; omega
theorem nf_at {f : Nat → Bool} : ∀ p i, i < cntB f p → ∃ q : Nat, q < p ∧ nf f p i = (q : Int) ∧ f q = true ∧ cntB f q = i
  | 0, i, h => by simp [cntB] at h
  | p + 1, i, h => by
    unfold nf
    cases hf : f p
    · rw [cntB_same hf] at h
      obtain ⟨q, h1, h2, h3⟩ := nf_at p i h
      exact ⟨q, by omega, by simpa using h2, h3⟩
    · rw [cntB_succ hf] at h
      simp only [if_true]
      by_cases e : i = cntB f p
      · exact ⟨p, by omega, by rw [if_pos e], hf, e.symm⟩
      · obtain ⟨q, h1, h2, h3⟩ := nf_at (f := f) p i (by omega)
        exact ⟨q, by omega, by rw [if_neg e]; exact h2, h3⟩

def am (f : Nat → Bool) (i x : Nat) : Bool := f x && decide (cntB f x < i)
theorem am_zero (f : Nat → Bool) (x : Nat) : am f 0 x = false := by simp [am]
theorem am_succ {f : Nat → Bool} {i q : Nat} (hq : f q = true) (hc : cntB f q = i) (x : Nat) : am f (i + 1) x = (am f i x || x == q) := by
  unfold am
  by_cases e : x = q
  · subst e; simp [hq, hc]
  · cases hx : f x
    · have : (x == q) = false := by simpa using e
      simp [this]
    · have h1 : cntB f x ≠ i := fun h => e (cntB_inj hx hq (by omega))
      have h2 : (x == q) = false := by simpa using e
      rw [h2]
      simp; omega
theorem am_all {f : Nat → Bool} {p x : Nat} (hx : x < p) : am f (cntB f p) x = f x := by
  unfold am
  cases h : f x
  · rfl
  · have := cntB_mono f (show x + 1 ≤ p by omega)
    rw [cntB_succ h] at this
    simp; omega

def mid (B : Nat → Nat → Bool) (a i q k : Nat) : Nat → Nat → Bool := fun x y =>
  if x = a then B a y && !am (B a) i y else if y = a then B a x && !am (B a) i x
  else B x y || ((am (B a) i x && (B a y && x != y)) || (x == q && (am (B a) k y && x != y)))
theorem mid_start {B : Nat → Nat → Bool} (hB : Fair B) (a q x y : Nat) : mid B a 0 q 0 x y = B x y := by
  unfold mid
  simp only [am_zero]
  split
  · next h => subst h; simp
  · split
    · next h => subst h; simp [hB.1 x y]
    · simp
theorem mid_skip {B : Nat → Nat → Bool} {a i q q' x y : Nat} : mid B a i q 0 x y = mid B a i q' 0 x y := by
  unfold mid
  simp only [am_zero]
  simp
theorem mid_join {B : Nat → Nat → Bool} (hB : Fair B) {a i q k q' : Nat} (hq : B a q = true) (hq' : B a q' = true) (hc : cntB (B a) q' = k) (hne : q ≠ q') (x y : Nat) : upd (mid B a i q k) q q' true x y = mid B a i q (k + 1) x y := by
  have ha : q ≠ a := fun e => by rw [e, hB.2] at hq; cases hq
  have ha' : q' ≠ a := fun e => by rw [e, hB.2] at hq'; cases hq'
  unfold upd
  by_cases e : x = q ∧ y = q'
  · obtain ⟨rfl, rfl⟩ := e
    rw [if_pos ⟨rfl, rfl⟩]
    unfold mid
    rw [if_neg ha, if_neg ha', am_succ hq' hc]
    have : (x != y) = true := by simpa using hne
    simp [this]
  · rw [if_neg e]
    unfold mid
    by_cases h1 : x = a
    · rw [if_pos h1, if_pos h1]
    · rw [if_neg h1, if_neg h1]
      by_cases h2 : y = a
      · rw [if_pos h2, if_pos h2]
      · rw [if_neg h2, if_neg h2, am_succ hq' hc]
        by_cases h3 : x = q
        · have h4 : (y == q') = false := by
            have : y ≠ q' := fun h => e ⟨h3, h⟩
            simpa using this
          rw [h4]; simp
        · have h4 : (x == q) = false := by simpa using h3
          rw [h4]; simp
theorem mid_pass {B : Nat → Nat → Bool} {a i q k : Nat} (hq : B a q = true) (hc : cntB (B a) q = k) (x y : Nat) : mid B a i q k x y = mid B a i q (k + 1) x y := by
  unfold mid
  rw [am_succ hq hc]
  by_cases h1 : x = a
  · rw [if_pos h1, if_pos h1]
  · rw [if_neg h1, if_neg h1]
    by_cases h2 : y = a
    · rw [if_pos h2, if_pos h2]
    · rw [if_neg h2, if_neg h2]
      by_cases h3 : x = q
      · by_cases h4 : y = q
        · subst h3 h4; simp
        · have : (y == q) = false := by simpa using h4
          rw [this]; simp
      · have h4 : (x == q) = false := by simpa using h3
        rw [h4]; simp
theorem mid_done {B : Nat → Nat → Bool} (hB : Fair B) {a i q p : Nat} (hq : B a q = true) (hc : cntB (B a) q = i) {x y : Nat} (hx : x < p) (hy : y < p) : upd (upd (mid B a i q (cntB (B a) p)) a q false) q a false x y = mid B a (i + 1) 0 0 x y := by
  have ha : q ≠ a := fun e => by rw [e, hB.2] at hq; cases hq
  have ha' : ¬ a = q := fun e => ha e.symm
  unfold upd
  by_cases e1 : x = q ∧ y = a
  · obtain ⟨rfl, rfl⟩ := e1
    rw [if_pos ⟨rfl, rfl⟩]
    unfold mid
    rw [if_neg ha, if_pos rfl, am_succ hq hc]; simp
  · rw [if_neg e1]
    by_cases e2 : x = a ∧ y = q
    · obtain ⟨rfl, rfl⟩ := e2
      rw [if_pos ⟨rfl, rfl⟩]
      unfold mid
      rw [if_pos rfl, am_succ hq hc]; simp
    · rw [if_neg e2]
      unfold mid
      rw [am_succ hq hc, am_succ hq hc, am_all hy]
      by_cases h1 : x = a
      · rw [if_pos h1, if_pos h1]
        have : (y == q) = false := by
          have : y ≠ q := fun h => e2 ⟨h1, h⟩
          simpa using this
        rw [this]; simp
      · rw [if_neg h1, if_neg h1]
        by_cases h2 : y = a
        · rw [if_pos h2, if_pos h2]
          have : (x == q) = false := by
            have : x ≠ q := fun h => e1 ⟨h, h2⟩
            simpa using this
          rw [this]; simp
        · rw [if_neg h2, if_neg h2, am_zero]
          cases am (B a) i x <;> cases (x == q) <;> simp
theorem mid_end {B : Nat → Nat → Bool} (hB : Fair B) {a p q x y : Nat} (hx : x < p) (hy : y < p) : mid B a (cntB (B a) p) q 0 x y = tk B a x y := by
  unfold mid tk
  rw [am_all hx, am_all hy, am_zero]
  by_cases h1 : x = a
  · rw [if_pos h1, if_pos (Or.inl h1)]; simp
  · rw [if_neg h1]
    by_cases h2 : y = a
    · rw [if_pos h2, if_pos (Or.inr h2)]; simp
    · rw [if_neg h2, if_neg (fun h => by rcases h with h | h; exact h1 h; exact h2 h)]; simp

end Go.Proofs.YtokaechbmnbbiabGreat

/-
  Whom an iterator visits: the plain part.
-/
set_option linter.unusedVariables false
set_option linter.unusedSimpArgs false
namespace Go.Proofs.YtokaechbmnbbiabGreat



def vis (bits : List Nat → Nat → Bool) : Nat → List Nat
  | 0 => []
  | k + 1 => if bits (vis bits k) k then vis bits k ++ [k] else vis bits k
def visF (f : Nat → Bool) (k : Nat) : List Nat := vis (fun _ => f) k
theorem visF_len (f : Nat → Bool) : ∀ k, (visF f k).length = cntB f k
  | 0 => rfl
  | k + 1 => by
    show (if f k then visF f k ++ [k] else visF f k).length = cntB f k + _
    have := visF_len f k
    split <;> simp_all
theorem visF_mem (f : Nat → Bool) : ∀ k x, x ∈ visF f k ↔ x < k ∧ f x = true
  | 0, x => by simp [visF, vis]
  | k + 1, x => by
    show x ∈ (if f k then visF f k ++ [k] else visF f k) ↔ _
    have := visF_mem f k x
    by_cases h : f k = true
    · rw [if_pos h, List.mem_append, this, List.mem_singleton]
      constructor
      · rintro (⟨h1, h2⟩ | rfl)
        · exact ⟨by omega, h2⟩
        · exact ⟨by omega, h⟩
      · rintro ⟨h1, h2⟩
        by_cases e : x = k
        · exact .inr e
        · exact .inl ⟨by omega, h2⟩
    · rw [if_neg h, this]
      constructor
      · rintro ⟨h1, h2⟩
        exact ⟨by omega, h2⟩
      · rintro ⟨h1, h2⟩
        refine ⟨?_, h2⟩
        by_cases e : x = k
        · subst e; exact absurd h2 h
        · omega

end Go.Proofs.YtokaechbmnbbiabGreat

/-
  A place being taken away by the program, the plain part: which pairs are joined while its neighbours go one by one.
-/
set_option linter.unusedVariables false
set_option linter.unusedSimpArgs false
namespace Go.Proofs.YtokaechbmnbbiabGreat

def Within (p : Nat) (B : Nat → Nat → Bool) : Prop := ∀ x y, B x y = true → x < p ∧ y < p
theorem within_nbA {F T : Nat → Int} {p : Nat} : ∀ n, (∀ k, k < n → (F k).toNat < p ∧ (T k).toNat < p) → Within p (nbA F T n)
  | 0, _, x, y, h => by simp [nbA] at h
  | n + 1, hk, x, y, h => by
    have h' : upd2 (nbA F T n) (F n).toNat (T n).toNat true x y = true := h
    rw [upd2_at] at h'
    have := hk n (by omega)
    by_cases e : (x = (F n).toNat ∧ y = (T n).toNat) ∨ (x = (T n).toNat ∧ y = (F n).toNat)
    · omega
    · rw [if_neg e] at h'
      exact within_nbA n (fun k hk' => hk k (by omega)) x y h'
theorem within_tk {p : Nat} {B : Nat → Nat → Bool} (h : Within p B) (a : Nat) : Within p (tk B a) := fun x y hx => by
  unfold tk at hx
  split at hx
  · cases hx
  · simp at hx
    rcases hx with hx | ⟨h1, h2, _⟩
    · exact h x y hx
    · exact ⟨(h a x h1).2, (h a y h2).2⟩
def stI (B : Nat → Nat → Bool) (a : Nat) (pre : List Nat) : Nat → Nat → Bool := fun x y =>
  if x = a then B a y && !pre.contains y else if y = a then B a x && !pre.contains x
  else B x y || (x != y && (B a x && (B a y && (pre.contains x || pre.contains y))))
def stJ (B : Nat → Nat → Bool) (a : Nat) (pre : List Nat) (q : Nat) (pre' : List Nat) : Nat → Nat → Bool := fun x y =>
  if x = a then B a y && !(pre ++ [q]).contains y else if y = a then B a x && !(pre ++ [q]).contains x
  else B x y || ((x != y && (B a x && (B a y && (pre.contains x || pre.contains y)))) || ((x == q && pre'.contains y) || (y == q && pre'.contains x)))
theorem contains_snoc (l : List Nat) (q x : Nat) : (l ++ [q]).contains x = (l.contains x || x == q) := by
  rw [Bool.eq_iff_iff]
  simp
theorem stI_row (B : Nat → Nat → Bool) (a : Nat) (pre : List Nat) : stI B a pre a = fun j => B a j && !pre.contains j := by
  funext j; unfold stI; rw [if_pos rfl]
theorem stJ_row (B : Nat → Nat → Bool) (a : Nat) (pre : List Nat) (q : Nat) (pre' : List Nat) : stJ B a pre q pre' a = fun j => B a j && !(pre ++ [q]).contains j := by
  funext j; unfold stJ; rw [if_pos rfl]
theorem stI_start {B : Nat → Nat → Bool} (hB : Fair B) (a x y : Nat) : stI B a [] x y = B x y := by
  unfold stI
  by_cases h1 : x = a
  · subst h1; simp
  · rw [if_neg h1]
    by_cases h2 : y = a
    · subst h2; simp [hB.1 x y]
    · rw [if_neg h2]; simp
theorem stI_part (B : Nat → Nat → Bool) {a q : Nat} (pre : List Nat) (hq : q ≠ a) (x y : Nat) : upd2 (stI B a pre) a q false x y = stJ B a pre q [] x y := by
  rw [upd2_at]
  unfold stI stJ
  rw [contains_snoc, contains_snoc]
  by_cases h1 : x = a
  · rw [if_pos h1, if_pos h1]
    by_cases h2 : y = q
    · subst h2; rw [if_pos (Or.inl ⟨h1, rfl⟩)]; simp
    · rw [if_neg (by omega)]
      have : (y == q) = false := by simpa using h2
      rw [this]; simp
  · rw [if_neg h1, if_neg h1]
    by_cases h2 : y = a
    · rw [if_pos h2, if_pos h2]
      by_cases h3 : x = q
      · subst h3; rw [if_pos (Or.inr ⟨rfl, h2⟩)]; simp
      · rw [if_neg (by omega)]
        have : (x == q) = false := by simpa using h3
        rw [this]; simp
    · rw [if_neg (by omega), if_neg h2, if_neg h2]; simp
theorem stJ_join (B : Nat → Nat → Bool) {a q b : Nat} (pre pre' : List Nat) (hq : q ≠ a) (hb : b ≠ a) (x y : Nat) : upd2 (stJ B a pre q pre') q b true x y = stJ B a pre q (pre' ++ [b]) x y := by
  rw [upd2_at]
  by_cases e : (x = q ∧ y = b) ∨ (x = b ∧ y = q)
  · rw [if_pos e]
    unfold stJ
    rw [if_neg (by omega), if_neg (by omega), contains_snoc, contains_snoc]
    rcases e with ⟨rfl, rfl⟩ | ⟨rfl, rfl⟩ <;> simp
  · rw [if_neg e]
    unfold stJ
    rw [contains_snoc pre', contains_snoc pre']
    by_cases h1 : x = a
    · rw [if_pos h1, if_pos h1]
    · rw [if_neg h1, if_neg h1]
      by_cases h2 : y = a
      · rw [if_pos h2, if_pos h2]
      · rw [if_neg h2, if_neg h2]
        have e1 : (x == q && (pre'.contains y || y == b)) = (x == q && pre'.contains y) := by
          by_cases hx : x = q
          · have hy : y ≠ b := fun h => e (Or.inl ⟨hx, h⟩)
            have : (y == b) = false := by simpa using hy
            rw [this]; simp
          · have : (x == q) = false := by simpa using hx
            rw [this]; simp
        have e2 : (y == q && (pre'.contains x || x == b)) = (y == q && pre'.contains x) := by
          by_cases hy : y = q
          · have hx : x ≠ b := fun h => e (Or.inr ⟨h, hy⟩)
            have : (x == b) = false := by simpa using hx
            rw [this]; simp
          · have : (y == q) = false := by simpa using hy
            rw [this]; simp
        rw [e1, e2]
theorem visF_contains (f : Nat → Bool) (p x : Nat) : (visF f p).contains x = (decide (x < p) && f x) := by
  rw [Bool.eq_iff_iff]
  simp [visF_mem]
theorem stJ_end {B : Nat → Nat → Bool} {p a q : Nat} {pre : List Nat} (hW : Within p B) (hq : B a q = true) (x y : Nat) : stJ B a pre q (visF (fun j => B a j && !(pre ++ [q]).contains j) p) x y = stI B a (pre ++ [q]) x y := by
  unfold stI stJ
  rw [visF_contains, visF_contains, contains_snoc, contains_snoc]
  by_cases h1 : x = a
  · rw [if_pos h1, if_pos h1]
  · rw [if_neg h1, if_neg h1]
    by_cases h2 : y = a
    · rw [if_pos h2, if_pos h2]
    · rw [if_neg h2, if_neg h2]
      have wx : B a x = true → decide (x < p) = true := fun h => by simpa using (hW a x h).2
      have wy : B a y = true → decide (y < p) = true := fun h => by simpa using (hW a y h).2
      congr 1
      by_cases hx : x = q
      · by_cases hy : y = q
        · subst hx hy; simp
        · have e1 : (x == q) = true := by simpa using hx
          have e2 : (y == q) = false := by simpa using hy
          have e3 : (x != y) = true := by simp; omega
          have e4 : B a x = true := by rw [hx]; exact hq
          rw [e1, e2, e3, e4]
          cases hby : B a y
          · simp
          · rw [wy hby]
            cases pre.contains y <;> simp
      · by_cases hy : y = q
        · have e1 : (x == q) = false := by simpa using hx
          have e2 : (y == q) = true := by simpa using hy
          have e3 : (x != y) = true := by simp; omega
          have e4 : B a y = true := by rw [hy]; exact hq
          rw [e1, e2, e3, e4]
          cases hbx : B a x
          · simp
          · rw [wx hbx]
            cases pre.contains x <;> simp
        · have e1 : (x == q) = false := by simpa using hx
          have e2 : (y == q) = false := by simpa using hy
          rw [e1, e2]; simp
theorem stI_end {B : Nat → Nat → Bool} {p a : Nat} (hW : Within p B) (x y : Nat) : stI B a (visF (B a) p) x y = tk B a x y := by
  unfold stI tk
  rw [visF_contains, visF_contains]
  have wx : (decide (x < p) && B a x) = B a x := by
    cases h : B a x
    · simp
    · have := (hW a x h).2
      simp [this]
  have wy : (decide (y < p) && B a y) = B a y := by
    cases h : B a y
    · simp
    · have := (hW a y h).2
      simp [this]
  rw [wx, wy]
  by_cases h1 : x = a
  · rw [if_pos h1, if_pos (Or.inl h1)]; simp
  · rw [if_neg h1]
    by_cases h2 : y = a
    · rw [if_pos h2, if_pos (Or.inr h2)]; simp
    · rw [if_neg h2, if_neg (fun h => by rcases h with h | h; exact h1 h; exact h2 h)]
      congr 1
      cases B a x <;> cases B a y <;> simp
theorem vis_struck (f : Nat → Bool) : ∀ k, vis (fun pre j => f j && !pre.contains j) k = visF f k
  | 0 => rfl
  | k + 1 => by
    have ih := vis_struck f k
    have hb : (f k && !(visF f k).contains k) = f k := by
      rw [visF_contains]; simp
    show (if f k && !(vis (fun pre j => f j && !pre.contains j) k).contains k then vis (fun pre j => f j && !pre.contains j) k ++ [k] else vis (fun pre j => f j && !pre.contains j) k) = (if f k then visF f k ++ [k] else visF f k)
    rw [ih, hb]

end Go.Proofs.YtokaechbmnbbiabGreat
