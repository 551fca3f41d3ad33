/-
  Helpers, merged: Cmp, EdOkImpl, ChdP, Chd, Tri, Cus, LWt, FillM, CusP, Equal, RankImpl, OrderOk, Sort.
-/
import Derived.Test.YtokaechbmnbbiabGreatPack2
import Derived.Test.YtokaechbmnbbiabGreatPack6
import Derived.Test.YtokaechbmnbbiabGreatPack1
import Derived.Test.YtokaechbmnbbiabGreatPack3
import Derived.Test.YtokaechbmnbbiabGreatPack4
import Derived.BigRegion
/-
  Which of two edges goes first: the program's comparison answers a number below nought just where the first one is below the second. No condition.
-/
set_option linter.unusedVariables false
set_option linter.unusedSimpArgs false
namespace Go.Proofs.YtokaechbmnbbiabGreat
open Go.RowKit
attribute [local go_sem ↓] Go.wp_at_zero Go.wp_at_succ

def cmpI (x y : Int) : Int := if x < y then -1 else if y < x then 1 else 0
def orI (x y : Int) : Int := if x = 0 then y else x
def cmpE (l h l' h' : Int) : Int := orI (cmpI l l') (cmpI h h')
theorem cmpE_up (l h l' h' : Int) : cmpE l h l' h' < 0 ↔ upB l h l' h' = true := by
  unfold cmpE orI cmpI upB
  by_cases h1 : l < l'
  · simp [h1]
  by_cases h2 : l' < l
  · have : l ≠ l' := by omega
    simp [h1, h2, this]
  have : l = l' := by omega
  subst this
  by_cases h3 : h < h'
  · simp [h3]
  by_cases h4 : h' < h <;> simp [h3, h4]
theorem isNaN_any (x : Int) (w : World) : Calls Tryz.prog 131 #[.int .i64 x] w fun e w' => e = .returned (.bool false) ∧ w' = w := by
  go_enter Tryz.func131, Tryz.ntmps131
  go_wp2
  go_ret
  exact ⟨by simp, rfl⟩

theorem compare_any (x y : Int) (w : World) : Calls Tryz.prog 122 #[.int .i64 x, .int .i64 y] w fun e w' => e = .returned (.int .i64 (cmpI x y)) ∧ w' = w := by
  unfold cmpI
  by_cases h1 : x < y
  · go_enter Tryz.func122, Tryz.ntmps122
    go_wp2_with (go_at_call 131; refine (isNaN_any _ _).mono ?_; rintro e w1 ⟨rfl, rfl⟩)
    go_ret
    exact ⟨by simp [h1], rfl⟩
  by_cases h2 : y < x <;>
  · go_enter Tryz.func122, Tryz.ntmps122
    go_wp2_with (go_at_call 131; refine (isNaN_any _ _).mono ?_; rintro e w1 ⟨rfl, rfl⟩)
    go_ret
    exact ⟨by simp [h1, h2], rfl⟩

theorem or_two (b o c : Nat) (x y : Int) (w : World) (h0 : w.cell? ⟨b, o, none⟩ = some (.int .i64 x)) (h1 : w.cell? ⟨b, o + 1, none⟩ = some (.int .i64 y)) :
    Calls Tryz.prog 121 #[.slice (some ⟨b, o, none⟩) 2 c] w fun e w' => e = .returned (.int .i64 (orI x y)) ∧ w' = w := by
  unfold orI
  go_enter Tryz.func121, Tryz.ntmps121
  go_wp2
  go_loop [8] (fun i => ∃ k : Nat, k ≤ 2 ∧ i = .int .i64 k ∧ (1 ≤ k → x = 0) ∧ (2 ≤ k → y = 0)) (fun i => 2 - (intOf i).toNat)
  case atStart => exact ⟨0, by omega, rfl, fun h => by omega, fun h => by omega⟩
  case round =>
    obtain ⟨k, hk, rfl, hx, hy⟩ := hrel
    have h3 : k = 0 ∨ k = 1 ∨ k = 2 := by omega
    rcases h3 with rfl | rfl | rfl
    · clear hx hy
      by_cases e : x = 0
      · go_wp2
        go_round
        case rel => exact ⟨1, by omega, by go_num, fun _ => e, fun h => by omega⟩
        case measure => simp [intOf]
      · go_wp2
        go_ret
        exact ⟨by simp [e], rfl⟩
    · have hx := hx (by omega)
      subst hx
      clear hy
      by_cases e : y = 0
      · go_wp2
        go_round
        case rel => exact ⟨2, by omega, by go_num, by simp, fun h => e⟩
        case measure => simp [intOf]
      · go_wp2
        go_ret
        exact ⟨by simp, rfl⟩
    · have hx := hx (by omega)
      have hy := hy (by omega)
      subst hx hy
      go_wp2
      go_ret
      exact ⟨by simp, rfl⟩

theorem compareEdges_any (l h l' h' : Int) (w : World) :
    Calls Tryz.prog 90 #[.agg #[.int .i64 l, .int .i64 h], .agg #[.int .i64 l', .int .i64 h']] w fun e w' => e = .returned (.int .i64 (cmpE l h l' h')) ∧ Below w.heap.size w w' := by
  go_enter Tryz.func90, Tryz.ntmps90
  go_wp2_with fail
  have hA : Below w.heap.size w ((w.alloc (.cells #[.int .i64 l, .int .i64 h] 62)).alloc (.cells #[.int .i64 l', .int .i64 h'] 62)) := ((Below.refl _ _).alloc (Nat.le_refl _) _).alloc (by simp) _
  go_region_held3 (fun W => W.cell? ⟨w.heap.size, 0, none⟩ = some (.int .i64 l) ∧ W.cell? ⟨w.heap.size, 1, none⟩ = some (.int .i64 h) ∧ W.cell? ⟨w.heap.size + 1, 0, none⟩ = some (.int .i64 l') ∧ W.cell? ⟨w.heap.size + 1, 1, none⟩ = some (.int .i64 h'))
    (first | go_keep)
    (first | (go_at_call 122; refine (compare_any _ _ _).mono ?_; rintro e w1 ⟨rfl, rfl⟩) | (go_at_call 121; refine (or_two _ _ _ _ _ _ (by simp [go_sem]; rfl) (by simp [go_sem]; rfl)).mono ?_; rintro e w1 ⟨rfl, rfl⟩))
  go_wp2
  go_ret
  exact ⟨rfl, (hA.alloc (by simp; omega) _).drew⟩

end Go.Proofs.YtokaechbmnbbiabGreat

/-
  The program's look whether edges are as told answers 'edgesB', for every list of at most 2^20 edges.
-/
set_option linter.unusedVariables false
set_option linter.unusedSimpArgs false
namespace Go.Proofs.YtokaechbmnbbiabGreat
open Go.RowKit
attribute [local go_sem ↓] Go.wp_at_zero Go.wp_at_succ

set_option maxHeartbeats 1600000 in
theorem edgesOk_any (p : Int) (ao : Option Addr) (n cap : Nat) (L H : Nat → Int) (hn : n ≤ 1048576) (w : World) (hr : ERow w ao n L H) :
    Calls Tryz.prog 104 #[.slice ao n cap, .int .i64 p] w fun e w' => e = .returned (.bool (edgesB p n L H)) ∧ Below w.heap.size w w' := by
  by_cases h1 : p < 1
  · have h' : inB p 1 24 = false := by simp [inB]; omega
    go_enter Tryz.func104, Tryz.ntmps104
    go_wp2
    go_ret
    exact ⟨ret_bool (by simp [edgesB, h']), Below.refl _ _⟩
  by_cases h2 : 24 < p
  · have h' : inB p 1 24 = false := by simp [inB]; omega
    go_enter Tryz.func104, Tryz.ntmps104
    go_wp2
    go_ret
    exact ⟨ret_bool (by simp [edgesB, h']), Below.refl _ _⟩
  have hin : Hid (inB p 1 24 = true) := by show inB p 1 24 = true; simp [inB]; omega
  go_enter Tryz.func104, Tryz.ntmps104
  go_wp2
  go_loopw [15] (fun i wr => ∃ k : Nat, k ≤ n ∧ i = .int .i64 k ∧ edB p L H k = true ∧ Below w.heap.size w wr) (fun i _ => n - (intOf i).toNat)
  case atStart => exact ⟨0, Nat.zero_le _, rfl, rfl, Below.refl _ _⟩
  case round =>
    obtain ⟨k, hk, rfl, hok, hbel⟩ := hrel
    have HOK : Hid (edB p L H k = true) := hok
    clear hok
    by_cases hlt : k < n
    rotate_left
    · have hkn : k = n := by omega
      subst hkn
      go_wp2
      go_ret
      exact ⟨ret_bool (by simp [edgesB, hin.out, HOK.out]), hbel⟩
    obtain ⟨b, o, hao, c0, c1⟩ := (hr.below hbel (Nat.le_refl _)) k hlt
    subst hao
    have hsz := hbel.size
    rcases Bool.eq_false_or_eq_true (edgeB (L k) (H k) p) with ha | ha
    rotate_left
    · go_wp2_with (go_at_call 127; refine (edgeOk_any _ _ _ _).mono ?_; rintro e w1 ⟨rfl, hb1⟩)
      go_ret
      exact ⟨ret_bool (by simp [edgesB, edB_no ha n hlt]), below_next (hbel.alloc (by omega) _) (Nat.le_refl _) hb1⟩
    by_cases h0 : 0 < k
    rotate_left
    · have hd : decide (0 < (k : Int)) = false := by simp; omega
      go_wp2_with (go_at_call 127; refine (edgeOk_any _ _ _ _).mono ?_; rintro e w1 ⟨rfl, hb1⟩)
      have hA := below_next (hbel.alloc (by omega) _) (Nat.le_refl _) hb1
      go_quiet (fail)
      go_wp2
      go_roundw
      case rel => exact ⟨k + 1, by omega, by go_num, edB_step HOK.out ha (Or.inl (by omega)), below_drewN hA _⟩
      case measure => simp [intOf]; omega
    have hbw : b < wr.heap.size := lt_of_cell c0
    obtain ⟨b', o', hao', d0, d1⟩ := (hr.below hbel (Nat.le_refl _)) (k - 1) (by omega)
    simp only [Option.some.injEq, Addr.mk.injEq, and_true] at hao'
    obtain ⟨rfl, rfl⟩ := hao'
    have hk1 : (0 : Int) ≤ (k : Int) - 1 := by omega
    have hk2 : (k : Int) - 1 < (n : Int) := by omega
    have hk3 : IntKind.i64.wrap ((k : Int) - 1) = (k : Int) - 1 := by rw [IntKind.wrap_i64]; omega
    have hk4 : ((k : Int) - 1).toNat = k - 1 := by omega
    have hk5 : (1 : Int) ≤ (k : Int) := by omega
    have hk6 : (k : Int) ≤ (n : Int) := by omega
    have hk7 : 1 ≤ k := by omega
    have hcu := cmpE_up (L (k - 1)) (H (k - 1)) (L k) (H k)
    rcases Bool.eq_false_or_eq_true (upB (L (k - 1)) (H (k - 1)) (L k) (H k)) with hu | hu
    · have hge : ¬ 0 ≤ cmpE (L (k - 1)) (H (k - 1)) (L k) (H k) := by have := hcu.2 hu; omega
      clear hcu
      go_wp2_with (go_at_call 127; refine (edgeOk_any _ _ _ _).mono ?_; rintro e w1 ⟨rfl, hb1⟩)
      have hbw1 := unbox hb1 (by simp)
      have hA := (hbel.alloc (by omega) _).trans (hb1.mono (by simp; omega))
      have s1 := keep_cell hbw1 (Nat.le_refl _) d0
      have s2 := keep_cell hbw1 (Nat.le_refl _) d1
      have s4 := keep_cell hb1 (Nat.le_refl _) (b := wr.heap.size) (o := 0) (by simp [go_sem]; rfl)
      have s5 := keep_cell hb1 (Nat.le_refl _) (b := wr.heap.size) (o := 1) (by simp [go_sem]; rfl)
      go_region_held3 (fun w' => w'.cell? ⟨b, o + (k - 1) * 2, none⟩ = some (.int .i64 (L (k - 1))) ∧ w'.cell? ⟨b, o + (k - 1) * 2 + 1, none⟩ = some (.int .i64 (H (k - 1))) ∧ w'.cell? ⟨wr.heap.size, 0, none⟩ = some (.int .i64 (L k)) ∧ w'.cell? ⟨wr.heap.size, 1, none⟩ = some (.int .i64 (H k)))
        (first | (go_split_ands; refine ⟨?_, ?_, ?_, ?_⟩ <;> exact keep_cell hb2 (Nat.le_refl _) (by assumption)) | go_keep)
        (first | (go_at_call 90; refine (compareEdges_any _ _ _ _ _).mono ?_; rintro e w2 ⟨rfl, hb2⟩; (first | have hA := below_next hA (by simp) hb2 | have hA := below_next hA.drew (by simp) hb2)))
      go_wp2
      go_roundw
      case rel => exact ⟨k + 1, by omega, by go_num, edB_step HOK.out ha (Or.inr hu), hA⟩
      case measure => simp [intOf]; omega
    · have hge : 0 ≤ cmpE (L (k - 1)) (H (k - 1)) (L k) (H k) := by
        by_cases h : cmpE (L (k - 1)) (H (k - 1)) (L k) (H k) < 0
        · rw [hcu.1 h] at hu; cases hu
        · omega
      clear hcu
      go_wp2_with (go_at_call 127; refine (edgeOk_any _ _ _ _).mono ?_; rintro e w1 ⟨rfl, hb1⟩)
      have hbw1 := unbox hb1 (by simp)
      have hA := (hbel.alloc (by omega) _).trans (hb1.mono (by simp; omega))
      have s1 := keep_cell hbw1 (Nat.le_refl _) d0
      have s2 := keep_cell hbw1 (Nat.le_refl _) d1
      have s4 := keep_cell hb1 (Nat.le_refl _) (b := wr.heap.size) (o := 0) (by simp [go_sem]; rfl)
      have s5 := keep_cell hb1 (Nat.le_refl _) (b := wr.heap.size) (o := 1) (by simp [go_sem]; rfl)
      go_region_held3 (fun w' => w'.cell? ⟨b, o + (k - 1) * 2, none⟩ = some (.int .i64 (L (k - 1))) ∧ w'.cell? ⟨b, o + (k - 1) * 2 + 1, none⟩ = some (.int .i64 (H (k - 1))) ∧ w'.cell? ⟨wr.heap.size, 0, none⟩ = some (.int .i64 (L k)) ∧ w'.cell? ⟨wr.heap.size, 1, none⟩ = some (.int .i64 (H k)))
        (first | (go_split_ands; refine ⟨?_, ?_, ?_, ?_⟩ <;> exact keep_cell hb2 (Nat.le_refl _) (by assumption)) | go_keep)
        (first | (go_at_call 90; refine (compareEdges_any _ _ _ _ _).mono ?_; rintro e w2 ⟨rfl, hb2⟩; (first | have hA := below_next hA (by simp) hb2 | have hA := below_next hA.drew (by simp) hb2)))
      go_wp2
      go_ret
      exact ⟨ret_bool (by simp [edgesB, edB_down h0 hu n hlt]), hA⟩

end Go.Proofs.YtokaechbmnbbiabGreat

/-
  Chordal: what it asks.
-/
set_option linter.unusedVariables false
set_option linter.unusedSimpArgs false
namespace Go.Proofs.YtokaechbmnbbiabGreat
open Go.RowKit
attribute [local go_sem ↓] Go.wp_at_zero Go.wp_at_succ

def Hs (n : Nat) (L H : Nat → Int) (a b : Int) : Prop := ∃ i, i < n ∧ L i = a ∧ H i = b
def ChdTo (n : Nat) (L H : Nat → Int) (m : Nat) : Prop := ∀ i, i < m → ∀ k, i < k → k < n → (∀ j, i < j → j ≤ k → L j = L i) → Hs n L H (H i) (H k)
def Chd (p : Int) (n : Nat) (L H : Nat → Int) : Prop := edgesB p n L H = true ∧ ChdTo n L H n

end Go.Proofs.YtokaechbmnbbiabGreat

/-
  Chordal: the document's. For every list of at most 2^20 edges.
-/
set_option linter.unusedVariables false
set_option linter.unusedSimpArgs false
namespace Go.Proofs.YtokaechbmnbbiabGreat
open Go.RowKit
attribute [local go_sem ↓] Go.wp_at_zero Go.wp_at_succ

def ChdAt (n : Nat) (L H : Nat → Int) (i k : Nat) : Prop := (∀ j, i < j → j < k → L j = L i) ∧ ∀ j, i < j → j < k → Hs n L H (H i) (H j)
theorem ChdTo.next {n : Nat} {L H : Nat → Int} {i k : Nat} (h : ChdTo n L H i) (hk : ChdAt n L H i k) (he : k = n ∨ L k ≠ L i) (hik : i < k) : ChdTo n L H (i + 1) := fun x hx y h1 h2 h3 => by
  by_cases e : x = i
  · subst e
    by_cases hy : y < k
    · exact hk.2 y h1 hy
    · rcases he with he | he
      · omega
      · exact absurd (h3 k hik (by omega)) he
  · exact h x (by omega) y h1 h2 h3
theorem ChdAt.start (n : Nat) (L H : Nat → Int) (i : Nat) : ChdAt n L H i (i + 1) := ⟨fun j h1 h2 => by omega, fun j h1 h2 => by omega⟩
theorem ChdAt.next {n : Nat} {L H : Nat → Int} {i k : Nat} (h : ChdAt n L H i k) (e : L k = L i) (hs : Hs n L H (H i) (H k)) : ChdAt n L H i (k + 1) :=
  ⟨fun j h1 h2 => by
    by_cases x : j = k
    · subst x; exact e
    · exact h.1 j h1 (by omega),
   fun j h1 h2 => by
    by_cases x : j = k
    · subst x; exact hs
    · exact h.2 j h1 (by omega)⟩
end Go.Proofs.YtokaechbmnbbiabGreat

/-
  Triangles of a list of edges that rises, in their order: the plain part; and where an edge stands in the list (the document's).
-/
set_option linter.unusedVariables false
set_option linter.unusedSimpArgs false
namespace Go.Proofs.YtokaechbmnbbiabGreat
open Go.RowKit
attribute [local go_sem ↓] Go.wp_at_zero Go.wp_at_succ

theorem ed_rise {p : Int} {L H : Nat → Int} : ∀ n, edB p L H n = true → ∀ j, j < n → ∀ i, i < j → L i < L j ∨ (L i = L j ∧ H i < H j)
  | 0, _, j, hj, _, _ => by omega
  | n + 1, h, j, hj, i, hi => by
    have hn : edB p L H n = true := by simp [edB] at h; exact h.1
    by_cases e : j = n
    · subst e
      have hup : L (j - 1) < L j ∨ (L (j - 1) = L j ∧ H (j - 1) < H j) := by
        simp [edB] at h
        rcases h.2.2 with h0 | h0
        · omega
        · exact (upB_iff).1 h0
      by_cases e2 : i = j - 1
      · subst e2; exact hup
      · have := ed_rise j hn (j - 1) (by omega) i (by omega)
        omega
    · exact ed_rise n hn j (by omega) i hi
theorem ed_once {p : Int} {n : Nat} {L H : Nat → Int} (h : edB p L H n = true) {i j : Nat} (hi : i < n) (hj : j < n) (h1 : L i = L j) (h2 : H i = H j) : i = j := by
  rcases Nat.lt_trichotomy i j with x | x | x
  · have := ed_rise n h j hj i x; omega
  · exact x
  · have := ed_rise n h i hi j x; omega
def fnd (L H : Nat → Int) (a b : Int) : Nat → Nat
  | 0 => 0
  | k + 1 => if L k = a ∧ H k = b then k else fnd L H a b k
theorem fnd_at {L H : Nat → Int} {a b : Int} : ∀ n, Hs n L H a b → fnd L H a b n < n ∧ L (fnd L H a b n) = a ∧ H (fnd L H a b n) = b
  | 0, ⟨i, hi, _⟩ => by omega
  | n + 1, ⟨i, hi, h1, h2⟩ => by
    unfold fnd
    by_cases e : L n = a ∧ H n = b
    · rw [if_pos e]; exact ⟨by omega, e⟩
    · rw [if_neg e]
      have := fnd_at n ⟨i, by
        by_cases x : i = n
        · subst x; exact absurd ⟨h1, h2⟩ e
        · omega, h1, h2⟩
      exact ⟨by omega, this.2⟩
theorem fnd_is {p : Int} {n : Nat} {L H : Nat → Int} (h : edB p L H n = true) {a b : Int} {q : Nat} (hq : q < n) (h1 : L q = a) (h2 : H q = b) : fnd L H a b n = q := by
  have := fnd_at n ⟨q, hq, h1, h2⟩
  exact ed_once h this.1 hq (by rw [this.2.1, h1]) (by rw [this.2.2, h2])
abbrev Tr := Nat × Nat × Nat
def rowT (n : Nat) (L H : Nat → Int) (i : Nat) : Nat → Nat → List Tr
  | 0, _ => []
  | f + 1, k => if k < n ∧ L k = L i then (i, k, fnd L H (H i) (H k) n) :: rowT n L H i f (k + 1) else []
def allT (n : Nat) (L H : Nat → Int) : Nat → List Tr
  | 0 => []
  | i + 1 => allT n L H i ++ rowT n L H i (n - (i + 1)) (i + 1)
theorem rowT_go {n : Nat} {L H : Nat → Int} {i k : Nat} (hk : k < n) (h : L k = L i) : rowT n L H i (n - k) k = (i, k, fnd L H (H i) (H k) n) :: rowT n L H i (n - (k + 1)) (k + 1) := by
  have : n - k = (n - (k + 1)) + 1 := by omega
  rw [this, rowT, if_pos ⟨hk, h⟩]
theorem rowT_stop {n : Nat} {L H : Nat → Int} {i k : Nat} (h : ¬ (k < n ∧ L k = L i)) : rowT n L H i (n - k) k = [] := by
  cases e : n - k with
  | zero => rfl
  | succ f => rw [rowT, if_neg h]
def TOk (n : Nat) (L H : Nat → Int) (t : Tr) : Prop := t.1 < n ∧ t.2.1 < n ∧ t.2.2 < n ∧ t.1 < t.2.1 ∧ L t.2.1 = L t.1 ∧ L t.2.2 = H t.1 ∧ H t.2.2 = H t.2.1
theorem tok_of {p : Int} {n : Nat} {L H : Nat → Int} (he : edB p L H n = true) (hc : ChdTo n L H n) {i k : Nat} (hi : i < k) (hk : k < n) (h : L k = L i) : TOk n L H (i, k, fnd L H (H i) (H k) n) := by
  have hs := hc i (by omega) k hi hk (fun j h1 h2 => by
    by_cases e : j = k
    · subst e; exact h
    · have a := ed_rise n he j (by omega) i h1
      have b := ed_rise n he k hk j (by omega)
      omega)
  obtain ⟨h1, h2, h3⟩ := fnd_at n hs
  exact ⟨by omega, hk, h1, hi, h, h2, h3⟩
theorem rowT_ok {p : Int} {n : Nat} {L H : Nat → Int} (he : edB p L H n = true) (hc : ChdTo n L H n) {i : Nat} : ∀ f k, i < k → ∀ t ∈ rowT n L H i f k, TOk n L H t
  | 0, k, _, t, ht => by simp [rowT] at ht
  | f + 1, k, hk, t, ht => by
    unfold rowT at ht
    split at ht
    · next h =>
      rcases List.mem_cons.1 ht with rfl | ht
      · exact tok_of he hc hk h.1 h.2
      · exact rowT_ok he hc f (k + 1) (by omega) t ht
    · simp at ht
theorem allT_ok {p : Int} {n : Nat} {L H : Nat → Int} (he : edB p L H n = true) (hc : ChdTo n L H n) : ∀ i, ∀ t ∈ allT n L H i, TOk n L H t
  | 0, t, ht => by simp [allT] at ht
  | i + 1, t, ht => by
    unfold allT at ht
    rcases List.mem_append.1 ht with ht | ht
    · exact allT_ok he hc i t ht
    · exact rowT_ok he hc _ (i + 1) (by omega) t ht
theorem allT_mono {n : Nat} {L H : Nat → Int} {i : Nat} {t : Tr} : ∀ {j}, i ≤ j → t ∈ allT n L H i → t ∈ allT n L H j
  | 0, hi, h => by
    have : i = 0 := by omega
    subst this; exact h
  | j + 1, hi, h => by
    by_cases e : i = j + 1
    · subst e; exact h
    · exact List.mem_append.2 (Or.inl (allT_mono (j := j) (by omega) h))
theorem rowT_len {n : Nat} {L H : Nat → Int} {i : Nat} : ∀ f k, (rowT n L H i f k).length ≤ f
  | 0, k => by simp [rowT]
  | f + 1, k => by
    unfold rowT
    split
    · have := rowT_len (n := n) (L := L) (H := H) (i := i) f (k + 1); simp; omega
    · simp
theorem allT_len {n : Nat} {L H : Nat → Int} : ∀ i, (allT n L H i).length ≤ i * n
  | 0 => by simp [allT]
  | i + 1 => by
    have h1 := allT_len (n := n) (L := L) (H := H) i
    have h2 := rowT_len (n := n) (L := L) (H := H) (i := i) (n - (i + 1)) (i + 1)
    have h3 : (i + 1) * n = i * n + n := by rw [Nat.add_mul, Nat.one_mul]
    simp only [allT, List.length_append]
    omega
theorem row_mem {p : Int} {n : Nat} {L H : Nat → Int} (he : edB p L H n = true) {i k : Nat} (hk : k < n) (hL : L k = L i) : ∀ d k0, k - k0 = d → i < k0 → k0 ≤ k → (i, k, fnd L H (H i) (H k) n) ∈ rowT n L H i (n - k0) k0
  | 0, k0, hd, h1, h2 => by
    have : k0 = k := by omega
    subst this
    rw [rowT_go hk hL]
    exact List.mem_cons_self
  | d + 1, k0, hd, h1, h2 => by
    have hl : L k0 = L i := by
      have a := ed_rise n he k0 (by omega) i h1
      have b := ed_rise n he k hk k0 (by omega)
      omega
    rw [rowT_go (by omega) hl]
    exact List.mem_cons_of_mem _ (row_mem he hk hL d (k0 + 1) (by omega) (by omega) (by omega))
theorem tok_mem {p : Int} {n : Nat} {L H : Nat → Int} (he : edB p L H n = true) {t : Tr} (h : TOk n L H t) : t ∈ allT n L H n := by
  obtain ⟨i, k, e⟩ := t
  obtain ⟨h1, h2, h3, h4, h5, h6, h7⟩ := h
  simp only at h1 h2 h3 h4 h5 h6 h7
  have hf : fnd L H (H i) (H k) n = e := fnd_is he h3 h6 h7
  have := row_mem he h2 h5 (k - (i + 1)) (i + 1) rfl (by omega) (by omega)
  rw [hf] at this
  exact allT_mono (i := i + 1) (by omega) (List.mem_append.2 (.inr this))
def InF (n : Nat) (U : Nat → Int) : Prop := ∀ j, j < n → 0 ≤ U j ∧ U j ≤ 1000000000000
def upT (U D : Nat → Int) (t : Tr) : Int := min 1000000000000 (D t.1 + U t.2.1)
def dnT (U D : Nat → Int) (t : Tr) : Int := min 1000000000000 (D t.2.1 + U t.1)
def okT (U D : Nat → Int) (t : Tr) : Prop := U t.2.2 ≤ upT U D t ∧ D t.2.2 ≤ dnT U D t

end Go.Proofs.YtokaechbmnbbiabGreat

/-
  Weights of edges over triangles, with no program in sight.
-/
set_option linter.unusedVariables false
set_option linter.unusedSimpArgs false
namespace Go.Proofs.YtokaechbmnbbiabGreat

def stU (s : (Nat → Int) × (Nat → Int)) (t : Tr) : Nat → Int := fun j => if j = t.2.2 then min (s.1 t.2.2) (upT s.1 s.2 t) else s.1 j
def stT (s : (Nat → Int) × (Nat → Int)) (t : Tr) : (Nat → Int) × (Nat → Int) := (stU s t, fun j => if j = t.2.2 then min (s.2 t.2.2) (dnT (stU s t) s.2 t) else s.2 j)
def runT (s : (Nat → Int) × (Nat → Int)) (l : List Tr) : (Nat → Int) × (Nat → Int) := l.foldl stT s
theorem runT_snoc (s : (Nat → Int) × (Nat → Int)) (l : List Tr) (t : Tr) : runT s (l ++ [t]) = stT (runT s l) t := by simp [runT]
theorem stU_in {m : Nat} {L H : Nat → Int} {s : (Nat → Int) × (Nat → Int)} {t : Tr} (ht : TOk m L H t) (h1 : InF m s.1) (h2 : InF m s.2) : InF m (stU s t) := fun j hj => by
  have a := h1 j hj
  have b := h1 t.2.2 ht.2.2.1
  have c := h1 t.2.1 ht.2.1
  have d := h2 t.1 (by have := ht.1; have := ht.2.1; omega)
  unfold stU upT
  split <;> omega
theorem stT_in {m : Nat} {L H : Nat → Int} {s : (Nat → Int) × (Nat → Int)} {t : Tr} (ht : TOk m L H t) (h1 : InF m s.1) (h2 : InF m s.2) : InF m (stT s t).1 ∧ InF m (stT s t).2 := by
  have hu := stU_in ht h1 h2
  refine ⟨hu, fun j hj => ?_⟩
  have a := h2 j hj
  have b := h2 t.2.2 ht.2.2.1
  have c := h2 t.2.1 ht.2.1
  have d := hu t.1 (by have := ht.1; have := ht.2.1; omega)
  unfold stT dnT
  simp only
  split <;> omega
theorem runT_in {m : Nat} {L H : Nat → Int} {s : (Nat → Int) × (Nat → Int)} (h1 : InF m s.1) (h2 : InF m s.2) : ∀ l : List Tr, (∀ t ∈ l, TOk m L H t) → InF m (runT s l).1 ∧ InF m (runT s l).2 := by
  intro l
  induction l generalizing s with
  | nil => intro _; exact ⟨h1, h2⟩
  | cons t l ih =>
    intro h
    have ht := stT_in (h t (by simp)) h1 h2
    exact ih ht.1 ht.2 (fun x hx => h x (by simp [hx]))

end Go.Proofs.YtokaechbmnbbiabGreat

/-
  Plain: the last weight of an arc.
-/
set_option linter.unusedVariables false
set_option linter.unusedSimpArgs false
namespace Go.Proofs.YtokaechbmnbbiabGreat
open Go.RowKit Go.Maps

def lastW (F T G : Nat → Int) (a b : Int) : Nat → Int
  | 0 => 1000000000000
  | k + 1 => if F k = a ∧ T k = b then G k else lastW F T G a b k
theorem lastW_at {F T G : Nat → Int} {a b : Int} {k : Nat} : ∀ n, (∀ j, j < n → F j = a → T j = b → j = k) → k < n → F k = a → T k = b → lastW F T G a b n = G k
  | 0, _, hk, _, _ => by omega
  | n + 1, hu, hk, hF, hT => by
    unfold lastW
    by_cases h : F n = a ∧ T n = b
    · rw [if_pos h, hu n (by omega) h.1 h.2]
    · rw [if_neg h]
      have : k ≠ n := fun e => h (e ▸ ⟨hF, hT⟩)
      exact lastW_at n (fun j hj => hu j (by omega)) (by omega) hF hT
theorem lastW_none {F T G : Nat → Int} {a b : Int} : ∀ n, (∀ j, j < n → ¬ (F j = a ∧ T j = b)) → lastW F T G a b n = 1000000000000
  | 0, _ => rfl
  | n + 1, h => by
    unfold lastW
    rw [if_neg (h n (by omega))]
    exact lastW_none n (fun j hj => h j (by omega))

end Go.Proofs.YtokaechbmnbbiabGreat

/-
  The fill is as told, chordal, and has each arc's edge: the plain part.
-/
set_option linter.unusedVariables false
set_option linter.unusedSimpArgs false
namespace Go.Proofs.YtokaechbmnbbiabGreat

theorem tk_keeps {B : Nat → Nat → Bool} {a x y : Nat} (hx : x ≠ a) (hy : y ≠ a) (h : B x y = true) : tk B a x y = true := by
  unfold tk
  rw [if_neg (by omega), h]; rfl
theorem tk_joins {B : Nat → Nat → Bool} {a x y : Nat} (hx : x ≠ a) (hy : y ≠ a) (hxy : x ≠ y) (h1 : B a x = true) (h2 : B a y = true) : tk B a x y = true := by
  unfold tk
  rw [if_neg (by omega), h1, h2]
  have : (x != y) = true := by simpa using hxy
  rw [this]; simp
theorem place_ne {p : Nat} {P : Nat → Int} (he : eachB p P p = true) {i j : Nat} (hi : i < p) (hj : j < p) (h : i ≠ j) : (P i).toNat ≠ (P j).toNat := fun e => by
  have h1 := (each_in p he i hi).1
  have h2 := (each_in p he j hj).1
  exact h (each_inj he hi hj (by omega))
theorem sqO_stays {B : Nat → Nat → Bool} {P : Nat → Int} {p : Nat} (he : eachB p P p = true) {x y t : Nat} (hx : x < p) (hy : y < p) (h : sqO B P t (P x).toNat (P y).toNat = true) : ∀ s, t ≤ s → s ≤ x → s ≤ y → sqO B P s (P x).toNat (P y).toNat = true := fun s hs h1 h2 => by
  induction s with
  | zero =>
    have : t = 0 := by omega
    subst this; exact h
  | succ s ih =>
    by_cases e : t = s + 1
    · subst e; exact h
    · have := ih (by omega) (by omega) (by omega)
      exact tk_keeps (place_ne he hx (by omega) (by omega)) (place_ne he hy (by omega) (by omega)) this
theorem fill_chord {B : Nat → Nat → Bool} {P : Nat → Int} {p : Nat} (he : eachB p P p = true) {r u v : Nat} (hr : r < u) (huv : u < v) (hv : v < p) (h1 : sqO B P r (P r).toNat (P u).toNat = true) (h2 : sqO B P r (P r).toNat (P v).toNat = true) : sqO B P u (P u).toNat (P v).toNat = true := by
  have h3 : sqO B P (r + 1) (P u).toNat (P v).toNat = true := tk_joins (place_ne he (by omega) (by omega) (by omega)) (place_ne he hv (by omega) (by omega)) (place_ne he (by omega) hv (by omega)) h1 h2
  exact sqO_stays he (by omega) hv h3 u (by omega) (Nat.le_refl _) (by omega)
theorem nbA_has {F T : Nat → Int} : ∀ n i, i < n → nbA F T n (F i).toNat (T i).toNat = true
  | 0, i, hi => by omega
  | n + 1, i, hi => by
    show upd2 (nbA F T n) (F n).toNat (T n).toNat true (F i).toNat (T i).toNat = true
    rw [upd2_at]
    by_cases e : i = n
    · subst e; rw [if_pos (Or.inl ⟨rfl, rfl⟩)]
    · split
      · rfl
      · exact nbA_has n i (by omega)

theorem getD_at {l : List (Int × Int)} {k : Nat} (hk : k < l.length) : l.getD k (0, 0) = l[k] := by simp [List.getD, hk]
theorem hs_mem {l : List (Int × Int)} {a b : Int} : Hs l.length (Lf l) (Hf l) a b ↔ (a, b) ∈ l := by
  constructor
  · rintro ⟨i, hi, h1, h2⟩
    unfold Lf at h1
    unfold Hf at h2
    rw [getD_at hi] at h1 h2
    have : l[i] = (a, b) := Prod.ext h1 h2
    rw [← this]
    exact List.getElem_mem hi
  · intro h
    obtain ⟨i, hi, e⟩ := List.mem_iff_getElem.1 h
    refine ⟨i, hi, ?_, ?_⟩
    · unfold Lf; rw [getD_at hi, e]
    · unfold Hf; rw [getD_at hi, e]
theorem ed_of_list {p : Int} {l : List (Int × Int)} (h1 : ∀ x ∈ l, edgeB x.1 x.2 p = true) (h2 : l.Pairwise lt2) : ∀ k, k ≤ l.length → edB p (Lf l) (Hf l) k = true
  | 0, _ => rfl
  | k + 1, hk => by
    have hk' : k < l.length := by omega
    refine edB_step (ed_of_list h1 h2 k (by omega)) ?_ ?_
    · unfold Lf Hf
      rw [getD_at hk']
      exact h1 _ (List.getElem_mem hk')
    · by_cases e : k = 0
      · exact Or.inl e
      · right
        have hk2 : k - 1 < l.length := by omega
        unfold Lf Hf
        rw [getD_at hk', getD_at hk2]
        exact List.pairwise_iff_getElem.1 h2 (k - 1) k hk2 hk' (by omega)
theorem fill_ok {B : Nat → Nat → Bool} {P : Nat → Int} {p : Nat} (hp1 : 1 ≤ p) (hp : p ≤ 24) (he : eachB p P p = true) :
    Chd (p : Int) (allS B P p p).length (Lf (allS B P p p)) (Hf (allS B P p p)) := by
  have hall : ∀ x ∈ allS B P p p, ∃ r h : Nat, r < h ∧ h < p ∧ sqO B P r (P r).toNat (P h).toNat = true ∧ x = ((r : Int), (h : Int)) := fun x hx => by
    obtain ⟨r, h, _, h2, h3, h4, h5⟩ := (mem_allS x p).1 hx
    exact ⟨r, h, h3, h2, h4, h5⟩
  have hsrt := srt_allS (B := B) (P := P) (p := p) p
  have hin : ∀ r h : Nat, r < h → h < p → sqO B P r (P r).toNat (P h).toNat = true → ((r : Int), (h : Int)) ∈ allS B P p p := fun r h h1 h2 h3 => (mem_allS _ p).2 ⟨r, h, by omega, h2, h1, h3, rfl⟩
  generalize allS B P p p = l at hall hsrt hin ⊢
  refine ⟨?_, ?_⟩
  · unfold edgesB
    rw [ed_of_list (fun x hx => ?_) hsrt l.length (Nat.le_refl _)]
    · simp [inB]; omega
    · obtain ⟨r, h, h1, h2, _, rfl⟩ := hall x hx
      simp [edgeB, inB]; omega
  · intro i hi k hik hk hL
    rw [hs_mem]
    have e1 : Lf l k = Lf l i := hL k hik (Nat.le_refl _)
    have hlt := List.pairwise_iff_getElem.1 hsrt i k hi hk hik
    obtain ⟨r, u, a1, a2, a3, a4⟩ := hall _ (List.getElem_mem hi)
    obtain ⟨r', v, b1, b2, b3, b4⟩ := hall _ (List.getElem_mem hk)
    unfold Lf Hf at *
    rw [getD_at hi, getD_at hk] at *
    rw [a4, b4] at hlt
    rw [a4, b4] at e1 ⊢
    have e1' : r' = r := by
      have : ((r' : Nat) : Int) = (r : Int) := e1
      omega
    subst e1'
    rw [lt2_iff] at hlt
    simp at hlt
    exact hin u v (by omega) b2 (fill_chord he a1 (by omega) b2 a3 b3)
theorem fill_arc {F T : Nat → Int} {n : Nat} {P : Nat → Int} {p : Nat} (he : eachB p P p = true) (hB : Fair (nbA F T n)) {i : Nat} (hi : i < n) (hF : 0 ≤ F i ∧ F i < (p : Int)) (hT : 0 ≤ T i ∧ T i < (p : Int)) (hne : F i ≠ T i) {x y : Nat} (hx : x < p) (hy : y < p) (ex : P x = F i) (ey : P y = T i) : (min (x : Int) y, max (x : Int) y) ∈ allS (nbA F T n) P p p := by
  have h0 := nbA_has n i hi (F := F) (T := T)
  have hxy : x ≠ y := fun e => by subst e; omega
  rw [← ex, ← ey] at h0
  by_cases hl : x < y
  · have e1 : min (x : Int) y = x := by omega
    have e2 : max (x : Int) y = y := by omega
    rw [e1, e2]
    exact (mem_allS _ p).2 ⟨x, y, hx, hy, hl, sqO_stays (B := nbA F T n) (t := 0) he hx hy h0 x (Nat.zero_le _) (Nat.le_refl _) (by omega), rfl⟩
  · have e1 : min (x : Int) y = y := by omega
    have e2 : max (x : Int) y = x := by omega
    rw [e1, e2]
    rw [hB.1] at h0
    exact (mem_allS _ p).2 ⟨y, x, hy, hx, by omega, sqO_stays (B := nbA F T n) (t := 0) he hy hx h0 y (Nat.zero_le _) (Nat.le_refl _) (by omega), rfl⟩

end Go.Proofs.YtokaechbmnbbiabGreat

/-
  Weights of edges as the program finds them from the arcs, with no program in sight.
-/
set_option linter.unusedVariables false
set_option linter.unusedSimpArgs false
namespace Go.Proofs.YtokaechbmnbbiabGreat

def w0U (n : Nat) (F T G P L H : Nat → Int) (j : Nat) : Int := lastW F T G (P (L j).toNat) (P (H j).toNat) n
def w0D (n : Nat) (F T G P L H : Nat → Int) (j : Nat) : Int := lastW F T G (P (H j).toNat) (P (L j).toNat) n

def lastZ (F T G : Nat → Int) (a b : Int) : Nat → Int
  | 0 => 0
  | t + 1 => if F t = a ∧ T t = b then G t else lastZ F T G a b t
theorem lastZ_in {F T G : Nat → Int} {a b : Int} : ∀ n, (∀ t, t < n → 1 ≤ G t ∧ G t ≤ 1000000) → 0 ≤ lastZ F T G a b n ∧ lastZ F T G a b n ≤ 1000000
  | 0, _ => by unfold lastZ; omega
  | n + 1, h => by
    have h1 := h n (by omega)
    have h2 := lastZ_in (F := F) (T := T) (a := a) (b := b) n (fun t ht => h t (by omega))
    unfold lastZ
    split <;> omega
theorem lastZ_far {F T G : Nat → Int} {a b : Int} : ∀ n, (∀ t, t < n → 1 ≤ G t ∧ G t ≤ 1000000) → (if lastZ F T G a b n = 0 then 1000000000000 else lastZ F T G a b n) = lastW F T G a b n
  | 0, _ => by unfold lastZ lastW; simp
  | n + 1, h => by
    have h1 := h n (by omega)
    have h2 := lastZ_far (F := F) (T := T) (a := a) (b := b) n (fun t ht => h t (by omega))
    unfold lastZ lastW
    by_cases e : F n = a ∧ T n = b
    · rw [if_pos e, if_pos e, if_neg (by omega)]
    · rw [if_neg e, if_neg e]
      exact h2
def wzU (F T G P L H : Nat → Int) (t j : Nat) : Int := lastZ F T G (P (L j).toNat) (P (H j).toNat) t
def wzD (F T G P L H : Nat → Int) (t j : Nat) : Int := lastZ F T G (P (H j).toNat) (P (L j).toNat) t

structure CEnv (k n m : Nat) (F T G P L H : Nat → Int) : Prop where
  k1 : 1 ≤ k
  k24 : k ≤ 24
  n100 : n ≤ 100
  m1000 : m ≤ 1000
  each : eachB k P k = true
  chd : Chd (k : Int) m L H
  ed : edB (k : Int) L H m = true
  ei : ∀ j, j < m → 0 ≤ L j ∧ L j < H j ∧ H j < (k : Int)
  inj : ∀ i j, i < k → j < k → P i = P j → i = j
  gt : ∀ t, t < n → 1 ≤ G t ∧ G t ≤ 1000000
  arc : ∀ t, t < n → ∃ x y e : Nat, x < k ∧ y < k ∧ e < m ∧ (P x = F t ∧ 0 ≤ F t ∧ F t < (k : Int)) ∧ (P y = T t ∧ 0 ≤ T t ∧ T t < (k : Int)) ∧ (rk P (-1) k (F t).toNat = (x : Int) ∧ rk P (-1) k (T t).toNat = (y : Int)) ∧ ((x < y ∧ L e = (x : Int) ∧ H e = (y : Int)) ∨ (y < x ∧ L e = (y : Int) ∧ H e = (x : Int)))
section
variable {k n m : Nat} {F T G P L H : Nat → Int}
theorem CEnv.once (h : CEnv k n m F T G P L H) {i j : Nat} (hi : i < m) (hj : j < m) (h1 : L i = L j) (h2 : H i = H j) : i = j := ed_once h.ed hi hj h1 h2
theorem CEnv.up (h : CEnv k n m F T G P L H) {t x y e : Nat} (hx : x < k) (hy : y < k) (he : e < m) (ex : P x = F t) (ey : P y = T t) (hxy : x < y) (hL : L e = (x : Int)) (hH : H e = (y : Int)) :
    (∀ j, j < m → (if j = e then G t else wzU F T G P L H t j) = wzU F T G P L H (t + 1) j) ∧ ∀ j, j < m → wzD F T G P L H (t + 1) j = wzD F T G P L H t j := by
  refine ⟨fun j hj => ?_, fun j hj => ?_⟩
  · have hj' := h.ei j hj
    unfold wzU
    show _ = (if _ then _ else _)
    by_cases e1 : j = e
    · subst e1
      rw [if_pos rfl, if_pos ⟨by rw [← ex, hL]; simp, by rw [← ey, hH]; simp⟩]
    · rw [if_neg e1, if_neg]
      rintro ⟨q1, q2⟩
      have a1 := h.inj x (L j).toNat hx (by omega) (by rw [ex, q1])
      have a2 := h.inj y (H j).toNat hy (by omega) (by rw [ey, q2])
      exact e1 (h.once hj he (by omega) (by omega))
  · have hj' := h.ei j hj
    unfold wzD
    show (if _ then _ else _) = _
    rw [if_neg]
    rintro ⟨q1, q2⟩
    have a1 := h.inj x (H j).toNat hx (by omega) (by rw [ex, q1])
    have a2 := h.inj y (L j).toNat hy (by omega) (by rw [ey, q2])
    omega
theorem CEnv.dn (h : CEnv k n m F T G P L H) {t x y e : Nat} (hx : x < k) (hy : y < k) (he : e < m) (ex : P x = F t) (ey : P y = T t) (hxy : y < x) (hL : L e = (y : Int)) (hH : H e = (x : Int)) :
    (∀ j, j < m → (if j = e then G t else wzD F T G P L H t j) = wzD F T G P L H (t + 1) j) ∧ ∀ j, j < m → wzU F T G P L H (t + 1) j = wzU F T G P L H t j := by
  refine ⟨fun j hj => ?_, fun j hj => ?_⟩
  · have hj' := h.ei j hj
    unfold wzD
    show _ = (if _ then _ else _)
    by_cases e1 : j = e
    · subst e1
      rw [if_pos rfl, if_pos ⟨by rw [← ex, hH]; simp, by rw [← ey, hL]; simp⟩]
    · rw [if_neg e1, if_neg]
      rintro ⟨q1, q2⟩
      have a1 := h.inj x (H j).toNat hx (by omega) (by rw [ex, q1])
      have a2 := h.inj y (L j).toNat hy (by omega) (by rw [ey, q2])
      exact e1 (h.once hj he (by omega) (by omega))
  · have hj' := h.ei j hj
    unfold wzU
    show (if _ then _ else _) = _
    rw [if_neg]
    rintro ⟨q1, q2⟩
    have a1 := h.inj x (L j).toNat hx (by omega) (by rw [ex, q1])
    have a2 := h.inj y (H j).toNat hy (by omega) (by rw [ey, q2])
    omega
theorem CEnv.farU (h : CEnv k n m F T G P L H) (j : Nat) : (if wzU F T G P L H n j = 0 then 1000000000000 else wzU F T G P L H n j) = w0U n F T G P L H j := lastZ_far n h.gt
theorem CEnv.farD (h : CEnv k n m F T G P L H) (j : Nat) : (if wzD F T G P L H n j = 0 then 1000000000000 else wzD F T G P L H n j) = w0D n F T G P L H j := lastZ_far n h.gt
end

end Go.Proofs.YtokaechbmnbbiabGreat

/-
  slices.Equal over edges: true just where both are as long, and each edge is the same.
-/
set_option linter.unusedVariables false
set_option linter.unusedSimpArgs false
namespace Go.Proofs.YtokaechbmnbbiabGreat
open Go.RowKit
attribute [local go_sem ↓] Go.wp_at_zero Go.wp_at_succ

def SameE (n m : Nat) (L H L' H' : Nat → Int) : Prop := n = m ∧ ∀ i, i < n → L i = L' i ∧ H i = H' i
set_option maxHeartbeats 1000000 in
theorem equalE_any (ao ao' : Option Addr) (n m cap cap' : Nat) (L H L' H' : Nat → Int) (hn : n ≤ 1048576) (hm : m ≤ 1048576) (w : World) (hr : ERow w ao n L H) (hr' : ERow w ao' m L' H') :
    Calls Tryz.prog 34 #[.slice ao n cap, .slice ao' m cap'] w fun e w' => BAns e (SameE n m L H L' H') ∧ Below w.heap.size w w' := by
  by_cases hnm : n = m
  rotate_left
  · have HN : Hid (¬ SameE n m L H L' H') := fun h => hnm h.1
    have hnm' : ¬ (n : Int) = (m : Int) := by omega
    go_enter Tryz.func34, Tryz.ntmps34
    go_wp2
    go_ret
    exact ⟨bans_no HN.out, Below.refl _ _⟩
  subst hnm
  go_enter Tryz.func34, Tryz.ntmps34
  go_wp2
  go_loopw [13] (fun x wr => ∃ k : Nat, k ≤ n ∧ x = .int .i64 k ∧ (∀ i, i < k → L i = L' i ∧ H i = H' i) ∧ Below w.heap.size w wr) (fun x _ => n - (intOf x).toNat)
  case atStart => exact ⟨0, Nat.zero_le _, rfl, fun i hi => by omega, Below.refl _ _⟩
  case round =>
    obtain ⟨k, hk, rfl, hall, hbel⟩ := hrel
    have HA : Hid (∀ i, i < k → L i = L' i ∧ H i = H' i) := hall
    clear hall
    by_cases hlt : k < n
    rotate_left
    · have hkn : k = n := by omega
      subst hkn
      go_wp2
      go_ret
      exact ⟨bans_yes ⟨rfl, HA.out⟩, hbel⟩
    obtain ⟨b, o, hao, c0, c1⟩ := (hr.below hbel (Nat.le_refl _)) k hlt
    subst hao
    obtain ⟨b', o', hao', d0, d1⟩ := (hr'.below hbel (Nat.le_refl _)) k hlt
    subst hao'
    have hk1 : (0 : Int) ≤ (k : Int) := by omega
    have hk2 : (k : Int) < (n : Int) := by omega
    by_cases he : L k = L' k ∧ H k = H' k
    · have HE : Hid (L k = L' k ∧ H k = H' k) := he
      obtain ⟨e1, e2⟩ := he
      rw [← e1] at d0
      rw [← e2] at d1
      clear e1 e2
      go_wp2
      go_quiet (fail)
      go_wp2
      go_roundw
      case rel => exact ⟨k + 1, by omega, by go_num, fun i hi => by
        by_cases x : i = k
        · subst x; exact HE.out
        · exact HA.out i (by omega), below_drewN hbel _⟩
      case measure => simp [intOf]; omega
    · have HE : Hid (¬ SameE n n L H L' H') := fun h => he (h.2 k hlt)
      by_cases h1 : L k = L' k
      · have h2 : ¬ H k = H' k := fun h => he ⟨h1, h⟩
        rw [← h1] at d0
        clear h1 he
        go_wp2
        go_quiet (fail)
        go_wp2
        go_ret
        exact ⟨bans_no HE.out, below_drewN hbel _⟩
      · clear he
        go_wp2
        go_quiet (fail)
        go_wp2
        go_ret
        exact ⟨bans_no HE.out, below_drewN hbel _⟩

end Go.Proofs.YtokaechbmnbbiabGreat

/-
  Ranks, the program's: the same list, in new memory. For every list of at most 2^20 numbers.
-/
set_option linter.unusedVariables false
set_option linter.unusedSimpArgs false
namespace Go.Proofs.YtokaechbmnbbiabGreat
open Go.RowKit
attribute [local go_sem ↓] Go.wp_at_zero Go.wp_at_succ

set_option maxHeartbeats 1000000 in
theorem implRanks_any (ao : Option Addr) (n cap : Nat) (P : Nat → Int) (hn : n ≤ 1048576) (w : World) (hr : IRow w ao n P) :
    Calls Tryz.prog 67 #[.slice ao n cap] w fun e w' => Ans w w' e (lenR n P) (rk P (-1) n) := by
  by_cases h2 : 24 < n
  · have h2' : 24 < (n : Int) := by omega
    have hL : lenR n P = 0 := by
      have : ¬ n ≤ 24 := by omega
      simp [lenR, okR, this]
    rw [hL]
    go_enter Tryz.func67, Tryz.ntmps67
    go_wp2
    go_ret
    exact ⟨_, _, rfl, fun h => by omega, (Below.refl _ _).alloc (Nat.le_refl _) _⟩
  have h2' : ¬ 24 < (n : Int) := by omega
  have hmk := make_ints n hn
  go_enter Tryz.func67, Tryz.ntmps67
  go_wp2
  clear hmk
  go_loopw [16] (fun i wr => ∃ k : Nat, k ≤ n ∧ i = .int .i64 k ∧ IHas wr w.heap.size n (fun j => if j < k then -1 else 0) ∧ Below w.heap.size w wr) (fun i _ => n - (intOf i).toNat)
  case atStart => exact ⟨0, Nat.zero_le _, rfl, (made_ints w n).congr (fun j _ => by simp), (Below.refl _ _).alloc (Nat.le_refl _) _⟩
  case round =>
    obtain ⟨k, hk, rfl, hown, hbel⟩ := hrel
    by_cases hlt : k < n
    · have d0 := hown.cell hlt
      have z0 := hown.frozen k
      have R := hown.set k (-1)
      have S := hbel.setCell (p := ⟨w.heap.size, k, none⟩) (Nat.le_refl _) (.int .i64 (-1))
      clear hown
      go_wp2
      go_roundw
      case rel =>
        refine ⟨k + 1, by omega, by go_num, R.congr (fun j hj => ?_), S⟩
        by_cases e : j = k
        · subst e; simp
        · simp only [if_neg e]
          by_cases hl : j < k
          · rw [if_pos hl, if_pos (by omega)]
          · rw [if_neg hl, if_neg (by omega)]
      case measure => simp [intOf]; omega
    have hkn : k = n := by omega
    subst hkn
    have hown0 := hown.congr (g := rk P (-1) 0) (fun j hj => by simp [rk, hj])
    clear hown
    go_wp2
    go_loopw [25] (fun i wq => ∃ m : Nat, m ≤ k ∧ i = .int .i64 m ∧ eachB k P m = true ∧ IHas wq w.heap.size k (rk P (-1) m) ∧ Below w.heap.size w wq) (fun i _ => k - (intOf i).toNat)
    case atStart => exact ⟨0, Nat.zero_le _, rfl, rfl, hown0, hbel⟩
    case round =>
      clear hown0 hbel
      obtain ⟨m, hm, rfl, hea, hown, hbel⟩ := hrel
      have HE : Hid (eachB k P m = true) := hea
      clear hea
      by_cases hlt : m < k
      rotate_left
      · have hmk : m = k := by omega
        subst hmk
        have HL : Hid (lenR m P = m) := by
          show lenR m P = m
          by_cases h0 : m = 0
          · subst h0; simp [lenR]
          · have h1 : 1 ≤ m := by omega
            have h24 : m ≤ 24 := by omega
            simp [lenR, okR, HE.out, h1, h24]
        go_wp2
        go_ret
        exact ans_of HL.out ⟨_, _, rfl, fun _ => ⟨_, rfl, Nat.le_refl _, hown⟩, hbel⟩
      obtain ⟨b, o, hao, c0⟩ := (hr.below hbel (Nat.le_refl _)) m hlt
      subst hao
      have hm0 : (0 : Int) ≤ (m : Int) := by omega
      have hmk : (m : Int) < (k : Int) := by omega
      rcases Bool.eq_false_or_eq_true (inB (P m) 0 ((k : Int) - 1)) with hi | hi
      rotate_left
      · have HL : Hid (lenR k P = 0) := by
          show lenR k P = 0
          have : eachB k P k = false := eachB_no (k := m) (by simp [eachB, hi]) hlt
          simp [lenR, okR, this]
        go_wp2_with (go_at_call 66; refine (placeOk_any _ _ _).mono ?_; rintro e w1 ⟨rfl, rfl⟩)
        go_ret
        exact ans_of HL.out ⟨_, _, rfl, fun h => by omega, hbel.alloc hbel.size _⟩
      have hq0 : 0 ≤ P m ∧ P m ≤ (k : Int) - 1 := by simpa [inB] using hi
      obtain ⟨q, hq⟩ : ∃ q : Nat, P m = (q : Int) := ⟨(P m).toNat, by omega⟩
      have hS : Hid (∀ j, rk P (-1) (m + 1) j = if j = q then (m : Int) else rk P (-1) m j) := rk_at hq
      have hE : Hid (eachB k P (m + 1) = !sn P m q) := eachB_at HE.out hq hi
      rw [hq] at c0 hi hq0
      clear hq
      have hqn : q < k := by omega
      have d0 := hown.cell hqn
      have z0 := hown.frozen q
      have R := hown.set q (m : Int)
      have S := hbel.setCell (p := ⟨w.heap.size, q, none⟩) (Nat.le_refl _) (.int .i64 (m : Int))
      have hqn' : (q : Int) < (k : Int) := by omega
      have hrs := rk_sn P m q
      rcases Bool.eq_false_or_eq_true (sn P m q) with hs | hs
      · have hge : 0 ≤ rk P (-1) m q := hrs.1 hs
        clear hrs
        have HL : Hid (lenR k P = 0) := by
          show lenR k P = 0
          have : eachB k P k = false := eachB_no (k := m) (by rw [hE.out, hs]; rfl) hlt
          simp [lenR, okR, this]
        go_wp2_with (go_at_call 66; refine (placeOk_any _ _ _).mono ?_; rintro e w1 ⟨rfl, rfl⟩)
        go_ret
        exact ans_of HL.out ⟨_, _, rfl, fun h => by omega, hbel.alloc hbel.size _⟩
      · have hge : ¬ 0 ≤ rk P (-1) m q := fun h => by rw [hrs.2 h] at hs; cases hs
        clear hrs hown
        go_wp2_with (go_at_call 66; refine (placeOk_any _ _ _).mono ?_; rintro e w1 ⟨rfl, rfl⟩)
        go_roundw
        case rel => exact ⟨m + 1, by omega, by go_num, by rw [hE.out, hs]; rfl, R.congr (fun j _ => (hS.out j).symm), S⟩
        case measure => simp [intOf]; omega

end Go.Proofs.YtokaechbmnbbiabGreat

/-
  OrderOk, the document's and the program's, at every map and every list of at most 2^20 numbers.
-/
set_option linter.unusedVariables false
set_option linter.unusedSimpArgs false
namespace Go.Proofs.YtokaechbmnbbiabGreat
open Go.RowKit
attribute [local go_sem ↓] Go.wp_at_zero Go.wp_at_succ

set_option maxHeartbeats 1000000 in
theorem implOrderOk_any (p : Int) (ao : Option Addr) (n cap : Nat) (F T G : Nat → Int) (po : Option Addr) (m pcap : Nat) (P : Nat → Int) (hn : n ≤ 1048576) (hm : m ≤ 1048576) (w : World) (hr : Row w ao n F T G) (hp : IRow w po m P) :
    Calls Tryz.prog 33 #[.agg #[.int .i64 p, .slice ao n cap], .slice po m pcap] w fun e w' => e = .returned (.bool (ordB p n F T G m P)) ∧ Below w.heap.size w w' := by
  rcases Bool.eq_false_or_eq_true (graphB p n F T G) with h | h
  rotate_left
  · go_enter Tryz.func33, Tryz.ntmps33
    go_wp2_with (go_at_call 39; refine (implGraphOk_any p ao n cap F T G hn _ (hr.alloc _)).mono ?_; rintro e w1 ⟨rfl, hb1⟩)
    go_ret
    exact ⟨ret_bool (by simp [ordB, h]), unbox hb1 (by simp)⟩
  rcases Bool.eq_false_or_eq_true ((m : Int) == p) with h2 | h2
  rotate_left
  · go_enter Tryz.func33, Tryz.ntmps33
    go_wp2_with (go_at_call 39; refine (implGraphOk_any p ao n cap F T G hn _ (hr.alloc _)).mono ?_; rintro e w1 ⟨rfl, hb1⟩; obtain ⟨hc, hf⟩ := bcell hb1)
    go_ret
    exact ⟨ret_bool (by simp only [ordB, h, h2]; rfl), unbox hb1 (by simp)⟩
  have hL : ((lenR m P : Int) == (m : Int)) = okR m P := by
    have hp1 : 1 ≤ p ∧ p ≤ 24 := by
      simp [graphB, inB] at h
      omega
    have hmp : (m : Int) = p := by simpa using h2
    unfold lenR
    cases hk : okR m P
    · rw [Bool.eq_false_iff]; simp; omega
    · simp
  have HL : Hid (((lenR m P : Int) == (m : Int)) = okR m P) := hL
  clear hL
  go_enter Tryz.func33, Tryz.ntmps33
  go_wp2_with (first | (go_at_call 39; refine (implGraphOk_any p ao n cap F T G hn _ (hr.alloc _)).mono ?_; rintro e w1 ⟨rfl, hb1⟩; obtain ⟨hc, hf⟩ := bcell hb1) | (go_at_call 67; refine (implRanks_any po m pcap P hm _ ((hp.alloc _).below hb1 (Nat.le_refl _))).mono ?_; rintro e w2 ⟨aoR, capR, rfl, _, hb2⟩))
  go_ret
  exact ⟨ret_bool (by rw [HL.out]; simp only [ordB, h, h2]; rfl), unbox (below_next hb1 (Nat.le_refl _) hb2) (by simp)⟩

end Go.Proofs.YtokaechbmnbbiabGreat

/-
  The program's generic sort, with the edges' comparison: the same edges, in their order. For lists of at most a million edges.
-/
set_option linter.unusedVariables false
set_option linter.unusedSimpArgs false
namespace Go.Proofs.YtokaechbmnbbiabGreat
open Go.RowKit
attribute [local go_sem ↓] Go.wp_at_zero Go.wp_at_succ

theorem srt_put {a d : List Pr} {x : Pr} (h : Srt (a ++ d)) (hd : ∀ e ∈ d, lt2 x e) (ha : a = [] ∨ ∃ a' y, a = a' ++ [y] ∧ ¬ lt2 x y) : Srt (a ++ x :: d) := by
  unfold Srt at h ⊢
  rw [List.pairwise_append] at h ⊢
  refine ⟨h.1, ?_, fun e he f hf => ?_⟩
  · rw [List.pairwise_cons]
    refine ⟨fun e he hlt => ?_, h.2.1⟩
    exact lt2_irr x (lt2_trans (hd e he) hlt)
  · simp at hf
    rcases hf with rfl | hf
    · rcases ha with rfl | ⟨a', y, rfl, hy⟩
      · simp at he
      · rw [List.mem_append] at he
        rcases he with he | he
        · have := h.1
          rw [List.pairwise_append] at this
          exact le2_trans (this.2.2 e he y (by simp)) hy
        · simp at he
          subst he; exact hy
    · exact h.2.2 e he f hf

theorem put_perm {a d pre suf l : List Pr} {x : Pr} {k : Nat} (had : a ++ d = pre) (hk : pre.length = k) (h : (pre ++ x :: suf).Perm l) : (a ++ x :: d).length = k + 1 ∧ (a ++ x :: d ++ suf).Perm l := by
  subst had
  refine ⟨by simp at hk ⊢; omega, List.Perm.trans ?_ h⟩
  have e1 : a ++ x :: d ++ suf = a ++ x :: (d ++ suf) := by simp
  have e2 : a ++ d ++ x :: suf = (a ++ d) ++ x :: suf := rfl
  rw [e1]
  refine List.perm_middle.trans (List.Perm.trans ?_ List.perm_middle.symm)
  rw [List.append_assoc]
theorem gr_drewN' (w : World) (n : Nat) (row : Option Nat) : w.grownBy (w.drewN n) row := ⟨rfl, rfl, rfl, Nat.le_refl _, fun _ _ _ => rfl⟩

set_option maxRecDepth 100000 in
set_option maxHeartbeats 4000000 in
theorem sortBy_any (g cap : Nat) (l : List Pr) (hn : l.length ≤ 1000000) (w : World) (hl : ELies w g l) :
    Calls Tryz.prog 89 #[.slice (some ⟨g, 0, none⟩) l.length cap, .func (.func 90) #[] #[]] w fun e w' => e = .returned (.tuple #[]) ∧ (∃ l' : List Pr, l'.length = l.length ∧ l'.Perm l ∧ Srt l' ∧ ELies w' g l') ∧ w.grownBy w' (some g) := by
  go_enter Tryz.func89, Tryz.ntmps89
  go_wp2
  go_loopw [4] (fun x wr => ∃ (k : Nat) (pre suf : List Pr), x = .int .i64 k ∧ 1 ≤ k ∧ pre.length = min k l.length ∧ pre.length + suf.length = l.length ∧ (pre ++ suf).Perm l ∧ Srt pre ∧ ELies wr g (pre ++ suf) ∧ w.grownBy wr (some g)) (fun x _ => l.length - (intOf x).toNat)
  case atStart =>
    match l, hl with
    | [], hl => exact ⟨1, [], [], rfl, Nat.le_refl _, by simp, rfl, List.Perm.refl _, List.Pairwise.nil, hl, World.grownBy.refl _ _⟩
    | x :: t, hl => exact ⟨1, [x], t, rfl, Nat.le_refl _, by simp, by simp; omega, List.Perm.refl _, by simp [Srt], hl, World.grownBy.refl _ _⟩
  case round =>
    obtain ⟨k, pre, suf, rfl, hk1, hpk, hps, hperm, hsrt, hE, hg⟩ := hrel
    by_cases hlt : k < l.length
    rotate_left
    · have hsuf : suf = [] := List.eq_nil_of_length_eq_zero (by omega)
      subst hsuf
      rw [List.append_nil] at hE hperm
      have hlen : pre.length = l.length := by simpa using hps
      go_wp2
      simp [bodyPost, results, Tryz.results89, go_sem]
      exact ⟨⟨pre, hlen, hperm, hsrt, hE⟩, hg⟩
    have hpk' : pre.length = k := by omega
    match suf, hps with
    | [], hps => simp at hps; omega
    | x :: suf', hps =>
    have HP : Hid ((pre ++ x :: suf').Perm l) := hperm
    clear hperm hpk
    go_wp2
    go_loopw [5] (fun y wq => ∃ (i : Nat) (a d : List Pr), y = .int .i64 i ∧ a.length = i ∧ a ++ d = pre ∧ (∀ e ∈ d, lt2 x e) ∧ ELies wq g (a ++ x :: (d ++ suf')) ∧ w.grownBy wq (some g)) (fun y _ => (intOf y).toNat)
    case atStart => exact ⟨k, pre, [], rfl, hpk', List.append_nil _, fun e he => by simp at he, by simpa using hE, hg⟩
    case round =>
      clear hE hg
      obtain ⟨i, a, d, rfl, hai, had, hdx, hE, hg⟩ := hrel
      by_cases hi : 0 < i
      rotate_left
      · have hd : decide ((0 : Int) < (i : Int)) = false := by simp; omega
        have ha0 : a = [] := List.eq_nil_of_length_eq_zero (by omega)
        have HN : Hid (Srt (a ++ x :: d)) := srt_put (by rw [had]; exact hsrt) hdx (Or.inl ha0)
        have hpl : Hid ((a ++ x :: d).length = k + 1 ∧ (a ++ x :: d ++ suf').Perm l) := put_perm had hpk' HP.out
        have hE' : ELies wr g (a ++ x :: d ++ suf') := by simpa using hE
        go_wp2
        go_quiet (fail)
        go_wp2
        go_roundw
        case rel =>
          have := hpl.out
          exact ⟨k + 1, a ++ x :: d, suf', by go_num, by omega, by omega, by simp at hps; omega, this.2, HN.out, EHas.of_block hE' rfl, hg.trans (gr_drewN' _ _ _)⟩
        case measure => simp [intOf]; omega
      have hane : a ≠ [] := fun e => by subst e; simp at hai; omega
      obtain ⟨a', y, haa⟩ : ∃ a' y, a = a' ++ [y] := ⟨a.dropLast, a.getLast hane, (List.dropLast_concat_getLast hane).symm⟩
      have ha1 : a'.length = i - 1 := by rw [haa] at hai; simp at hai; omega
      have hx := hE.at
      rw [hai] at hx
      obtain ⟨c0, c1⟩ := hx
      have hE2 : ELies wr g (a' ++ y :: x :: (d ++ suf')) := by rw [haa] at hE; simpa using hE
      have hy := hE2.at
      rw [ha1] at hy
      obtain ⟨d0, d1⟩ := hy
      have hin : i < l.length := by
        have := congrArg List.length had
        simp at this
        omega
      have hkd : decide ((0 : Int) < (i : Int)) = true := by simp; omega
      have hi0 : (0 : Int) ≤ (i : Int) := by omega
      have hi2 : (i : Int) < (l.length : Int) := by omega
      have hk1' : (0 : Int) ≤ (i : Int) - 1 := by omega
      have hk2 : (i : Int) - 1 < (l.length : Int) := by omega
      have hk3 : IntKind.i64.wrap ((i : Int) - 1) = (i : Int) - 1 := by rw [IntKind.wrap_i64]; omega
      have hk4 : ((i : Int) - 1).toNat = i - 1 := by omega
      have hk5 : (1 : Int) ≤ (i : Int) := by omega
      have hk6 : (i : Int) ≤ (l.length : Int) := by omega
      have hk7 : 1 ≤ i := by omega
      have hcu := cmpE_up x.1 x.2 y.1 y.2
      have hg1 : w.grownBy wr.drew (some g) := hg.trans ⟨rfl, rfl, rfl, Nat.le_refl _, fun _ _ _ => rfl⟩
      by_cases hlt2 : lt2 x y
      · have hge : cmpE x.1 x.2 y.1 y.2 < 0 := hcu.2 hlt2
        clear hcu
        go_wp2
        go_region_held3 (fun w' => w'.cell? ⟨g, i * 2, none⟩ = some (.int .i64 x.1) ∧ w'.cell? ⟨g, i * 2 + 1, none⟩ = some (.int .i64 x.2) ∧ w'.cell? ⟨g, (i - 1) * 2, none⟩ = some (.int .i64 y.1) ∧ w'.cell? ⟨g, (i - 1) * 2 + 1, none⟩ = some (.int .i64 y.2))
          (first | (go_split_ands; refine ⟨?_, ?_, ?_, ?_⟩ <;> exact keep_cell hb2 (Nat.le_refl _) (by assumption)) | go_keep)
          (first | (go_at_call 90; refine (compareEdges_any _ _ _ _ _).mono ?_; rintro e w2 ⟨rfl, hb2⟩))
        have hg2 : w.grownBy w2 (some g) := hg1.trans ⟨hb2.os, hb2.tape, hb2.output, hb2.size, fun k hk _ => hb2.block k hk⟩
        have hE3 : ELies w2 g (a' ++ y :: x :: (d ++ suf')) := EHas.next (w := wr.drew) (EHas.of_block hE2 rfl) hb2
        have k0 : w2.cell? ⟨g, i * 2, none⟩ = some (.int .i64 x.1) := keep_cell hb2 (Nat.le_refl _) (by exact c0)
        have k1 : w2.cell? ⟨g, i * 2 + 1, none⟩ = some (.int .i64 x.2) := keep_cell hb2 (Nat.le_refl _) (by exact c1)
        have k2 : w2.cell? ⟨g, (i - 1) * 2, none⟩ = some (.int .i64 y.1) := keep_cell hb2 (Nat.le_refl _) (by exact d0)
        have k3 : w2.cell? ⟨g, (i - 1) * 2 + 1, none⟩ = some (.int .i64 y.2) := keep_cell hb2 (Nat.le_refl _) (by exact d1)
        have z0 := EHas.frozen hE3 (i * 2)
        have z1 := EHas.frozen hE3 (i * 2 + 1)
        have z2 := EHas.frozen hE3 ((i - 1) * 2)
        have z3 := EHas.frozen hE3 ((i - 1) * 2 + 1)
        have hii : a'.length + 1 = i := by omega
        have HR : Hid (ELies ((((w2.setCell ⟨g, i * 2, none⟩ (.int .i64 y.1)).setCell ⟨g, i * 2 + 1, none⟩ (.int .i64 y.2)).setCell ⟨g, (i - 1) * 2, none⟩ (.int .i64 x.1)).setCell ⟨g, (i - 1) * 2 + 1, none⟩ (.int .i64 x.2)) g (a' ++ x :: y :: (d ++ suf'))) := by
          have h4 := (((EHas.set hE3 (i * 2) y.1).set (i * 2 + 1) y.2).set ((i - 1) * 2) x.1).set ((i - 1) * 2 + 1) x.2
          have hlen : (a' ++ y :: x :: (d ++ suf')).length = (a' ++ x :: y :: (d ++ suf')).length := by simp
          rw [hlen] at h4
          refine EHas.congr h4 (fun j _ => ?_)
          have := er_swap a' (d ++ suf') x y j
          rw [hii, ha1] at this
          exact this
        have HG : Hid (w.grownBy ((((w2.setCell ⟨g, i * 2, none⟩ (.int .i64 y.1)).setCell ⟨g, i * 2 + 1, none⟩ (.int .i64 y.2)).setCell ⟨g, (i - 1) * 2, none⟩ (.int .i64 x.1)).setCell ⟨g, (i - 1) * 2 + 1, none⟩ (.int .i64 x.2)) (some g)) := (((hg2.trans (gr_setCell _ g _ _)).trans (gr_setCell _ g _ _)).trans (gr_setCell _ g _ _)).trans (gr_setCell _ g _ _)
        have HX : Hid ((∀ e ∈ y :: d, lt2 x e) ∧ a' ++ (y :: d) = pre) := ⟨fun e he => by
          simp at he
          rcases he with rfl | he
          · exact hlt2
          · exact hdx e he, by rw [← had, haa]; simp⟩
        have n1 : ¬ ((i - 1) * 2 = i * 2) := by omega
        have n2 : ¬ ((i - 1) * 2 = i * 2 + 1) := by omega
        have n3 : ¬ ((i - 1) * 2 + 1 = i * 2) := by omega
        have n4 : ¬ ((i - 1) * 2 + 1 = i * 2 + 1) := by omega
        clear hE hE2 hE3 hg hg1 hg2 hb2 c0 c1 d0 d1 hdx had haa hane hlt2 hge
        go_wp2
        go_big_region
        go_wp2
        go_roundw
        case rel => exact ⟨i - 1, a', y :: d, by rw [show ((i - 1 : Nat) : Int) = (i : Int) - 1 by omega], ha1, HX.out.2, HX.out.1, EHas.of_block HR.out rfl, HG.out.trans ⟨rfl, rfl, rfl, Nat.le_refl _, fun _ _ _ => rfl⟩⟩
        case measure => simp [intOf]; omega
      · have hge : ¬ cmpE x.1 x.2 y.1 y.2 < 0 := fun h => hlt2 (hcu.1 h)
        have hged : decide (cmpE x.1 x.2 y.1 y.2 < 0) = false := by simpa using hge
        clear hcu
        have HN : Hid (Srt (a ++ x :: d)) := srt_put (by rw [had]; exact hsrt) hdx (Or.inr ⟨a', y, haa, hlt2⟩)
        have hpl : Hid ((a ++ x :: d).length = k + 1 ∧ (a ++ x :: d ++ suf').Perm l) := put_perm had hpk' HP.out
        have hE' : ELies wr g (a ++ x :: d ++ suf') := by simpa using hE
        go_wp2
        go_region_held3 (fun w' => w'.cell? ⟨g, i * 2, none⟩ = some (.int .i64 x.1) ∧ w'.cell? ⟨g, i * 2 + 1, none⟩ = some (.int .i64 x.2) ∧ w'.cell? ⟨g, (i - 1) * 2, none⟩ = some (.int .i64 y.1) ∧ w'.cell? ⟨g, (i - 1) * 2 + 1, none⟩ = some (.int .i64 y.2))
          (first | (go_split_ands; refine ⟨?_, ?_, ?_, ?_⟩ <;> exact keep_cell hb2 (Nat.le_refl _) (by assumption)) | go_keep)
          (first | (go_at_call 90; refine (compareEdges_any _ _ _ _ _).mono ?_; rintro e w2 ⟨rfl, hb2⟩))
        have hg2 : w.grownBy w2 (some g) := hg1.trans ⟨hb2.os, hb2.tape, hb2.output, hb2.size, fun k hk _ => hb2.block k hk⟩
        have hE3 : ELies w2 g (a ++ x :: d ++ suf') := EHas.next (w := wr.drew) (EHas.of_block hE' rfl) hb2
        clear hE hE2 hE' hg hg1 hb2 c0 c1 d0 d1
        go_wp2
        go_roundw
        case rel =>
          have := hpl.out
          exact ⟨k + 1, a ++ x :: d, suf', by go_num, by omega, by omega, by simp at hps; omega, this.2, HN.out, hE3, hg2⟩
        case measure => simp [intOf]; omega

end Go.Proofs.YtokaechbmnbbiabGreat
