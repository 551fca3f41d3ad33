/-
  Helpers, merged: RtP, OkA, OkI, OkImpl, Keys, Map, Nums, EdMap, Box22, EqI, Vh, Cus, Rank.
-/
import Derived.Test.YteibbknpcgcjjaiGreatPack2
import Derived.Test.YteibbknpcgcjjaiGreatPack1
import Derived.Deep.QuietTactic
import Derived.BigQuiet
import Derived.Deep.DrawnRows
import Derived.Maps.Own
import Derived.Maps.OwnOps
import Derived.Maps.OwnSet
import Derived.Maps.Views
import Derived.DeepKeys4
/-
  Plain: the steps by which a climb comes to a rank, as the program keeps them and as the document looks for them.
-/
set_option linter.unusedVariables false
set_option linter.unusedSimpArgs false
namespace Go.Proofs.YteibbknpcgcjjaiGreat

section
variable {k m : Nat} {L H W : Nat → Int}
/-- The last edge of a climb. -/
theorem cl_last {s : Nat} (he : edB (k : Int) L H m = true) (hE : ∀ i, i < m → 0 ≤ L i ∧ L i < H i ∧ H i < (k : Int)) : ∀ i, i ≤ m → ∀ q, q ≠ s → cl L H W s i q < 1000000000000 → ∃ j, j < i ∧ (H j).toNat = q ∧ cl L H W s m (L j).toNat + W j = cl L H W s i q
  | 0, _, q, hq, h => by
    unfold cl at h
    rw [if_neg hq] at h
    omega
  | i + 1, hi, q, hq, h => by
    by_cases e : q = (H i).toNat
    · have hv : cl L H W s (i + 1) q = min (cl L H W s i (H i).toNat) (min 1000000000000 (cl L H W s i (L i).toNat + W i)) := by
        rw [e]; conv => lhs; unfold cl
        rw [if_pos rfl]
      by_cases hl : cl L H W s i (H i).toNat ≤ min 1000000000000 (cl L H W s i (L i).toNat + W i)
      · have hv2 : cl L H W s (i + 1) q = cl L H W s i q := by rw [hv, e]; omega
        rw [hv2] at h ⊢
        obtain ⟨j, hj, r⟩ := cl_last he hE i (by omega) q hq h
        exact ⟨j, by omega, r⟩
      · refine ⟨i, by omega, e.symm, ?_⟩
        have h3 := hE i (by omega)
        have hs := cl_stay (W := W) (s := s) (i := i) (r := (L i).toNat) he hE (by omega) (m - i) (by omega)
        rw [show i + (m - i) = m by omega] at hs
        rw [hs]
        omega
    · have hv : cl L H W s (i + 1) q = cl L H W s i q := by conv => lhs; unfold cl
                                                            rw [if_neg e]
      rw [hv] at h ⊢
      obtain ⟨j, hj, r⟩ := cl_last he hE i (by omega) q hq h
      exact ⟨j, by omega, r⟩
end

/-- Does an edge lead to its upper end with just the sum there? -/
def fitE (D W L H : Nat → Int) (j : Nat) : Bool := decide (D (H j).toNat < 1000000000000) && decide (D (L j).toNat + W j = D (H j).toNat)
/-- The first of so many edges that does, to a rank. -/
def lstE (D W L H : Nat → Int) : Nat → Nat → Option Nat
  | 0, _ => none
  | j + 1, q => match lstE D W L H j q with
    | some i => some i
    | none => if fitE D W L H j = true ∧ (H j).toNat = q then some j else none
section
variable {D W L H : Nat → Int}
theorem lstE_old {j q i : Nat} (h : lstE D W L H j q = some i) : lstE D W L H (j + 1) q = some i := by simp [lstE, h]
theorem lstE_new {j : Nat} (h : lstE D W L H j (H j).toNat = none) (hf : fitE D W L H j = true) (q : Nat) : lstE D W L H (j + 1) q = if q = (H j).toNat then some j else lstE D W L H j q := by
  by_cases e : q = (H j).toNat
  · subst e
    simp [lstE, h, hf]
  · rw [if_neg e]
    cases hq : lstE D W L H j q with
    | some i => exact lstE_old hq
    | none => simp only [lstE, hq]; rw [if_neg (fun h => e h.2.symm)]
theorem lstE_same {j : Nat} (h : fitE D W L H j = false ∨ (lstE D W L H j (H j).toNat).isSome = true) (q : Nat) : lstE D W L H (j + 1) q = lstE D W L H j q := by
  cases hq : lstE D W L H j q with
  | some i => exact lstE_old hq
  | none =>
    simp only [lstE, hq]
    refine if_neg (fun hh => ?_)
    rcases h with h | h
    · rw [h] at hh; simp at hh
    · rw [hh.2, hq] at h
      simp at h
theorem lstE_no {n q : Nat} : lstE D W L H n q = none → ∀ j, j < n → ¬ (fitE D W L H j = true ∧ (H j).toNat = q) := by
  induction n with
  | zero => intro _ j hj; omega
  | succ n ih =>
    intro h j hj hh
    cases hq : lstE D W L H n q with
    | some i => rw [lstE_old hq] at h; cases h
    | none =>
      by_cases e : j = n
      · subst e
        simp only [lstE, hq] at h
        rw [if_pos hh] at h
        cases h
      · exact ih hq j (by omega) hh
theorem lstE_is {n q i : Nat} : lstE D W L H n q = some i → i < n ∧ fitE D W L H i = true ∧ (H i).toNat = q ∧ ∀ j, j < i → ¬ (fitE D W L H j = true ∧ (H j).toNat = q) := by
  induction n with
  | zero => intro h; simp [lstE] at h
  | succ n ih =>
    intro h
    cases hq : lstE D W L H n q with
    | some i' =>
      rw [lstE_old hq] at h
      cases h
      obtain ⟨h1, h2⟩ := ih hq
      exact ⟨by omega, h2⟩
    | none =>
      simp only [lstE, hq] at h
      split at h
      · next hf =>
        cases h
        refine ⟨by omega, hf.1, hf.2, ?_⟩
        exact lstE_no hq
      · cases h
end
/-- The edges by which a climb comes to a rank, from there down. -/
def chE (D W L H : Nat → Int) (m : Nat) : Nat → Nat → List Nat
  | 0, _ => []
  | f + 1, q => match lstE D W L H m q with
    | some i => i :: chE D W L H m f (L i).toNat
    | none => []

/-- What is known of a climb's sums. -/
structure Clb (k m : Nat) (L H W : Nat → Int) (s : Nat) (D : Nat → Int) : Prop where
  ed : edB (k : Int) L H m = true
  eds : ∀ i, i < m → 0 ≤ L i ∧ L i < H i ∧ H i < (k : Int)
  w : ∀ i, i < m → 0 ≤ W i ∧ W i ≤ 1000000000000
  zero : D s = 0
  low : ∀ q, q < s → D q = 1000000000000
  inn : ∀ q, 0 ≤ D q ∧ D q ≤ 1000000000000
  last : ∀ q, q ≠ s → D q < 1000000000000 → ∃ j, j < m ∧ (H j).toNat = q ∧ D (L j).toNat + W j = D q
theorem clb_cl {k m : Nat} {L H W : Nat → Int} {s : Nat} (he : edB (k : Int) L H m = true) (hE : ∀ i, i < m → 0 ≤ L i ∧ L i < H i ∧ H i < (k : Int)) (hW : InF m W) : Clb k m L H W s (cl L H W s m) :=
  ⟨he, hE, hW, cl_zero hE hW m (Nat.le_refl _), fun q hq => cl_low hE hW m (Nat.le_refl _) q hq, fun q => cl_in s hW m (Nat.le_refl _) q, fun q hq h => cl_last he hE m (Nat.le_refl _) q hq h⟩
section
variable {k m : Nat} {L H W : Nat → Int} {s : Nat} {D : Nat → Int}
theorem fitE_iff {j : Nat} : fitE D W L H j = true ↔ D (H j).toNat < 1000000000000 ∧ D (L j).toNat + W j = D (H j).toNat := by simp [fitE]
/-- No edge leads to where it began. -/
theorem Clb.at (C : Clb k m L H W s D) : lstE D W L H m s = none := by
  cases h : lstE D W L H m s with
  | none => rfl
  | some i =>
    obtain ⟨h1, h2, h3, _⟩ := lstE_is h
    have h4 := fitE_iff.1 h2
    rw [h3, C.zero] at h4
    have h5 := C.eds i h1
    have h6 := C.w i h1
    have h7 := C.low (L i).toNat (by omega)
    omega
theorem Clb.ex (C : Clb k m L H W s D) {q : Nat} (hq : q ≠ s) (h : D q < 1000000000000) : ∃ i, lstE D W L H m q = some i := by
  cases e : lstE D W L H m q with
  | some i => exact ⟨i, rfl⟩
  | none =>
    obtain ⟨j, hj, h1, h2⟩ := C.last q hq h
    exact absurd ⟨fitE_iff.2 (by rw [h1]; exact ⟨h, h2⟩), h1⟩ (lstE_no e j hj)
/-- What an edge of the way is. -/
theorem Clb.step (C : Clb k m L H W s D) {q i : Nat} (h : lstE D W L H m q = some i) : i < m ∧ (H i).toNat = q ∧ s ≤ (L i).toNat ∧ (L i).toNat < q ∧ q < k ∧ D (L i).toNat < 1000000000000 ∧ W i < 1000000000000 ∧ D (L i).toNat + W i = D q ∧ D q < 1000000000000 := by
  obtain ⟨h1, h2, h3, _⟩ := lstE_is h
  obtain ⟨h4, h5⟩ := fitE_iff.1 h2
  rw [h3] at h4 h5
  have h6 := C.eds i h1
  have h7 := C.w i h1
  have h8 := C.inn (L i).toNat
  refine ⟨h1, h3, ?_, by omega, by omega, by omega, by omega, h5, h4⟩
  rcases Nat.lt_or_ge (L i).toNat s with h9 | h9
  · have := C.low _ h9
    omega
  · exact h9
/-- The document's test of a rank below. -/
def docT (D W L H : Nat → Int) (m q x : Nat) : Bool := hsB m L H (x : Int) (q : Int) && (decide (D x ≠ 1000000000000) && decide (addF (D x) (W (fnd L H (x : Int) (q : Int) m)) = D q))
/-- The least rank that the document finds is the one that the program keeps. -/
theorem Clb.doc (C : Clb k m L H W s D) {q i : Nat} (h : lstE D W L H m q = some i) : docT D W L H m q (L i).toNat = true ∧ fnd L H (((L i).toNat : Nat) : Int) (q : Int) m = i ∧ ∀ x, x < (L i).toNat → docT D W L H m q x = false := by
  have S := C.step h
  obtain ⟨h1, h2, h3, hmin⟩ := lstE_is h
  have h6 := C.eds i h1
  have eL : (((L i).toNat : Nat) : Int) = L i := by omega
  have eH : (q : Int) = H i := by omega
  have hf : fnd L H (((L i).toNat : Nat) : Int) (q : Int) m = i := fnd_is C.ed h1 eL.symm eH.symm
  refine ⟨?_, hf, fun x hx => ?_⟩
  · unfold docT
    rw [hf]
    have : hsB m L H (((L i).toNat : Nat) : Int) (q : Int) = true := hsB_iff.2 ⟨i, h1, eL.symm, eH.symm⟩
    rw [this]
    simp only [Bool.true_and, Bool.and_eq_true, decide_eq_true_eq]
    unfold addF
    omega
  · cases e : docT D W L H m q x with
    | false => rfl
    | true =>
      unfold docT at e
      simp only [Bool.and_eq_true, decide_eq_true_eq] at e
      obtain ⟨e1, e2, e3⟩ := e
      have hat := fnd_at m (hsB_iff.1 e1)
      generalize fnd L H (x : Int) (q : Int) m = j at hat e3
      obtain ⟨j1, j2, j3⟩ := hat
      have hx0 := C.inn x
      have hw := C.w j j1
      have eq1 : D x + W j = D q := by unfold addF at e3; omega
      have jl : (L j).toNat = x := by omega
      have jh : (H j).toNat = q := by omega
      have hji : j < i := by
        rcases Nat.lt_or_ge j i with hh | hh
        · exact hh
        · have := ed_le C.ed hh j1
          omega
      exact absurd ⟨fitE_iff.2 (by rw [jl, jh]; exact ⟨S.2.2.2.2.2.2.2.2, eq1⟩), jh⟩ (hmin j hji)
/-- How the way goes on from a rank. -/
theorem chE_none {f q : Nat} (h : lstE D W L H m q = none) : chE D W L H m f q = [] := by
  cases f with
  | zero => rfl
  | succ f => simp [chE, h]
theorem chE_some {f q i : Nat} (h : lstE D W L H m q = some i) : chE D W L H m (f + 1) q = i :: chE D W L H m f (L i).toNat := by simp [chE, h]
theorem chE_fuel (C : Clb k m L H W s D) : ∀ f g q, q ≤ f → q ≤ g → chE D W L H m f q = chE D W L H m g q
  | f, g, q, hf, hg => by
    cases h : lstE D W L H m q with
    | none => rw [chE_none h, chE_none h]
    | some i =>
      have S := C.step h
      match f, g, hf, hg with
      | 0, _, hf, _ => omega
      | _, 0, _, hg => omega
      | f + 1, g + 1, hf, hg => rw [chE_some h, chE_some h, chE_fuel C f g (L i).toNat (by omega) (by omega)]
/-- The way to a rank: no longer than the rank; each edge of it leads over sums that are less than Far. -/
theorem chE_len (C : Clb k m L H W s D) : ∀ f q, (chE D W L H m f q).length ≤ q
  | 0, q => by simp [chE]
  | f + 1, q => by
    cases h : lstE D W L H m q with
    | none => rw [chE_none h]; simp
    | some i =>
      have S := C.step h
      rw [chE_some h]
      have := chE_len C f (L i).toNat
      simp
      omega
theorem chE_in (C : Clb k m L H W s D) : ∀ f q, ∀ i ∈ chE D W L H m f q, i < m ∧ W i < 1000000000000 ∧ (H i).toNat ≤ q
  | 0, q => fun i hi => by simp [chE] at hi
  | f + 1, q => fun i hi => by
    cases h : lstE D W L H m q with
    | none => rw [chE_none h] at hi; simp at hi
    | some j =>
      have S := C.step h
      rw [chE_some h] at hi
      rcases List.mem_cons.1 hi with rfl | hi
      · exact ⟨S.1, S.2.2.2.2.2.2.1, by omega⟩
      · have := chE_in C f (L j).toNat i hi
        exact ⟨this.1, this.2.1, by omega⟩
end

end Go.Proofs.YteibbknpcgcjjaiGreat

/-
  Is an arc right: the program's helpers.
-/
set_option linter.unusedVariables false
set_option linter.unusedSimpArgs false
namespace Go.Proofs.YteibbknpcgcjjaiGreat
open Go.RowKit

theorem weightOk_any (x : Int) (w : World) :
    Calls Tryz.prog 143 #[.int .i64 x] w fun e w' => e = .returned (.bool (inB x 1 1000000)) ∧ w' = w := by
  by_cases h1 : 1 ≤ x <;> by_cases h2 : x ≤ 1000000 <;>
  · go_enter Tryz.func143, Tryz.ntmps143
    go_wp2
    go_ret
    exact ⟨by simp [inB, h1, h2], rfl⟩
set_option maxHeartbeats 800000 in
theorem arcOk_any (f t g p : Int) (w : World) :
    Calls Tryz.prog 126 #[.agg #[.int .i64 f, .int .i64 t, .int .i64 g], .int .i64 p] w fun e w' => e = .returned (.bool (arcB f t g p)) ∧ Below w.heap.size w w' := by
  unfold arcB
  rcases Bool.eq_false_or_eq_true (inB f 0 (p - 1)) with h1 | h1
  · rcases Bool.eq_false_or_eq_true (inB t 0 (p - 1)) with h2 | h2
    · rcases Bool.eq_false_or_eq_true (f != t) with h3 | h3 <;>
      · go_enter Tryz.func126, Tryz.ntmps126
        go_wp2_with (first | (go_at_call 47; refine (placeOk_any _ _ _).mono ?_; rintro e w1 ⟨rfl, rfl⟩) | (go_at_call 143; refine (weightOk_any _ _).mono ?_; rintro e w1 ⟨rfl, rfl⟩))
        go_ret
        exact ⟨by simp [h1, h2, h3], (Below.refl _ _).alloc (Nat.le_refl _) _⟩
    · go_enter Tryz.func126, Tryz.ntmps126
      go_wp2_with (first | (go_at_call 47; refine (placeOk_any _ _ _).mono ?_; rintro e w1 ⟨rfl, rfl⟩) | (go_at_call 143; refine (weightOk_any _ _).mono ?_; rintro e w1 ⟨rfl, rfl⟩))
      go_ret
      exact ⟨by simp [h1, h2], (Below.refl _ _).alloc (Nat.le_refl _) _⟩
  · go_enter Tryz.func126, Tryz.ntmps126
    go_wp2_with (first | (go_at_call 47; refine (placeOk_any _ _ _).mono ?_; rintro e w1 ⟨rfl, rfl⟩) | (go_at_call 143; refine (weightOk_any _ _).mono ?_; rintro e w1 ⟨rfl, rfl⟩))
    go_ret
    exact ⟨by simp [h1], (Below.refl _ _).alloc (Nat.le_refl _) _⟩

end Go.Proofs.YteibbknpcgcjjaiGreat

/-
  GraphOk, the program's helpers.
-/
set_option linter.unusedVariables false
set_option linter.unusedSimpArgs false
namespace Go.Proofs.YteibbknpcgcjjaiGreat
open Go.RowKit

theorem endsOf_any (f t g : Int) (w : World) :
    Calls Tryz.prog 122 #[.agg #[.int .i64 f, .int .i64 t, .int .i64 g]] w fun e w' => e = .returned (.agg #[.int .i64 f, .int .i64 t]) ∧ Below w.heap.size w w' := by
  go_enter Tryz.func122, Tryz.ntmps122
  go_wp2
  simp [bodyPost, results, Tryz.results122, go_sem]
  exact ((Below.refl _ _).alloc (Nat.le_refl _) _).alloc (by simp) _
set_option maxHeartbeats 800000 in
theorem below_any (f t f' t' : Int) (w : World) :
    Calls Tryz.prog 144 #[.agg #[.int .i64 f, .int .i64 t], .agg #[.int .i64 f', .int .i64 t']] w fun e w' => e = .returned (.bool (upB f t f' t')) ∧ Below w.heap.size w w' := by
  unfold upB
  by_cases h1 : f < f'
  · go_enter Tryz.func144, Tryz.ntmps144
    go_wp2
    go_ret
    exact ⟨by simp [h1], ((Below.refl _ _).alloc (Nat.le_refl _) _).alloc (by simp) _⟩
  · rcases Bool.eq_false_or_eq_true (f == f') with h2 | h2
    · by_cases h3 : t < t' <;>
      · go_enter Tryz.func144, Tryz.ntmps144
        go_wp2
        go_ret
        exact ⟨by simp [h1, h2, h3], ((Below.refl _ _).alloc (Nat.le_refl _) _).alloc (by simp) _⟩
    · go_enter Tryz.func144, Tryz.ntmps144
      go_wp2
      go_ret
      exact ⟨by simp [h1, h2], ((Below.refl _ _).alloc (Nat.le_refl _) _).alloc (by simp) _⟩

end Go.Proofs.YteibbknpcgcjjaiGreat

/-
  The program's GraphOk answers 'graphB' of the map's places and arcs, for every map.
-/
set_option linter.unusedVariables false
set_option linter.unusedSimpArgs false
namespace Go.Proofs.YteibbknpcgcjjaiGreat
open Go.RowKit
attribute [local go_sem ↓] Go.wp_at_zero Go.wp_at_succ

set_option maxHeartbeats 1600000 in
theorem implGraphOk_any (p : Int) (ao : Option Addr) (n cap : Nat) (F T G : Nat → Int) (hn : n ≤ 1048576) (w : World) (hr : Row w ao n F T G) :
    Calls Tryz.prog 132 #[.agg #[.int .i64 p, .slice ao n cap]] w fun e w' => e = .returned (.bool (graphB p n F T G)) ∧ Below w.heap.size w w' := by
  by_cases h1 : p < 1
  · go_enter Tryz.func132, Tryz.ntmps132
    go_wp2
    go_ret
    exact ⟨ret_bool (by simp [graphB, inB]; omega), (Below.refl _ _).alloc (Nat.le_refl _) _⟩
  by_cases h2 : 24 < p
  · go_enter Tryz.func132, Tryz.ntmps132
    go_wp2
    go_ret
    exact ⟨ret_bool (by simp [graphB, inB]; omega), (Below.refl _ _).alloc (Nat.le_refl _) _⟩
  have hin : Hid (inB p 1 24 = true) := by show inB p 1 24 = true; simp [inB]; omega
  by_cases h3 : 100 < n
  · go_enter Tryz.func132, Tryz.ntmps132
    go_wp2
    go_ret
    exact ⟨ret_bool (by simp [graphB]; omega), (Below.refl _ _).alloc (Nat.le_refl _) _⟩
  have hn' : Hid (decide (n ≤ 100) = true) := by show decide (n ≤ 100) = true; simp; omega
  go_enter Tryz.func132, Tryz.ntmps132
  go_wp2
  go_loopw [22] (fun i wr => ∃ k : Nat, k ≤ n ∧ i = .int .i64 k ∧ arcsB p F T G k = true ∧ Below (w.heap.size + 1) (w.alloc (.cells #[.int .i64 p, .slice ao n cap] 38)) wr) (fun i _ => n - (intOf i).toNat)
  case atStart => exact ⟨0, Nat.zero_le _, rfl, rfl, Below.refl _ _⟩
  case round =>
    obtain ⟨k, hk, rfl, hok, hbel⟩ := hrel
    have g0 : wr.cell? ⟨w.heap.size, 0, none⟩ = some (.int .i64 p) := by rw [hbel.cell (by simp)]; simp [go_sem]
    have g1 : wr.cell? ⟨w.heap.size, 1, none⟩ = some (.slice ao n cap) := by rw [hbel.cell (by simp)]; simp [go_sem]
    have hsz : w.heap.size < wr.heap.size := by have := hbel.size; simp at this; omega
    have HOK : Hid (arcsB p F T G k = true) := hok
    clear hok
    by_cases hlt : k < n
    rotate_left
    · have hkn : k = n := by omega
      subst hkn
      go_wp2
      go_ret
      exact ⟨ret_bool (by simp [graphB, hin.out, hn'.out, HOK.out]), unbox hbel (by omega)⟩
    obtain ⟨b, o, hao, c0, c1, c2⟩ := ((hr.alloc _).below hbel (by simp)) k hlt
    subst hao
    rcases Bool.eq_false_or_eq_true (arcB (F k) (T k) (G k) p) with ha | ha
    rotate_left
    · go_wp2_with (go_at_call 126; refine (arcOk_any _ _ _ _ _).mono ?_; rintro e w1 ⟨rfl, hb1⟩)
      go_ret
      exact ⟨ret_bool (by simp [graphB, hin.out, arcsB_no ha n hlt]), unbox ((hbel.alloc (by omega) _).trans (hb1.mono (by simp; omega))) (by omega)⟩
    by_cases h0 : 0 < k
    rotate_left
    · have hd : decide (0 < (k : Int)) = false := by simp; omega
      go_wp2_with (go_at_call 126; refine (arcOk_any _ _ _ _ _).mono ?_; rintro e w1 ⟨rfl, hb1⟩)
      go_quiet (fail)
      go_wp2
      go_roundw
      case rel => exact ⟨k + 1, by omega, by go_num, arcsB_step HOK.out ha (Or.inl (by omega)), below_drewN ((hbel.alloc (by omega) _).trans (hb1.mono (by simp; omega))) _⟩
      case measure => simp [intOf]; omega
    have hbw : b < wr.heap.size := lt_of_cell c0
    obtain ⟨b', o', hao', d0, d1, d2⟩ := ((hr.alloc _).below hbel (by simp)) (k - 1) (by omega)
    simp only [Option.some.injEq, Addr.mk.injEq, and_true] at hao'
    obtain ⟨rfl, rfl⟩ := hao'
    have hk1 : (0 : Int) ≤ (k : Int) - 1 := by omega
    have hk2 : (k : Int) - 1 < (n : Int) := by omega
    have hk3 : IntKind.i64.wrap ((k : Int) - 1) = (k : Int) - 1 := by rw [IntKind.wrap_i64]; omega
    have hk4 : ((k : Int) - 1).toNat = k - 1 := by omega
    have hk5 : (1 : Int) ≤ (k : Int) := by omega
    have hk6 : (k : Int) ≤ (n : Int) := by omega
    have hk7 : 1 ≤ k := by omega
    rcases Bool.eq_false_or_eq_true (upB (F (k - 1)) (T (k - 1)) (F k) (T k)) with hu | hu
    · go_wp2_with (go_at_call 126; refine (arcOk_any _ _ _ _ _).mono ?_; rintro e w1 ⟨rfl, hb1⟩)
      have hbw1 := unbox hb1 (by simp)
      have hA := (hbel.alloc (by omega) _).trans (hb1.mono (by simp; omega))
      have s0 := keep_cell hbw1 (Nat.le_refl _) g1
      have s1 := keep_cell hbw1 (Nat.le_refl _) d0
      have s2 := keep_cell hbw1 (Nat.le_refl _) d1
      have s3 := keep_cell hbw1 (Nat.le_refl _) d2
      have s4 := keep_cell hb1 (Nat.le_refl _) (b := wr.heap.size) (o := 0) (by simp [go_sem]; rfl)
      have s5 := keep_cell hb1 (Nat.le_refl _) (b := wr.heap.size) (o := 1) (by simp [go_sem]; rfl)
      have s6 := keep_cell hb1 (Nat.le_refl _) (b := wr.heap.size) (o := 2) (by simp [go_sem]; rfl)
      go_region_held3 (fun w' => w'.cell? ⟨w.heap.size, 1, none⟩ = some (.slice (some ⟨b, o, none⟩) n cap) ∧ w'.cell? ⟨b, o + (k - 1) * 3, none⟩ = some (.int .i64 (F (k - 1))) ∧ w'.cell? ⟨b, o + (k - 1) * 3 + 1, none⟩ = some (.int .i64 (T (k - 1))) ∧ w'.cell? ⟨b, o + (k - 1) * 3 + 2, none⟩ = some (.int .i64 (G (k - 1))) ∧ w'.cell? ⟨wr.heap.size, 0, none⟩ = some (.int .i64 (F k)) ∧ w'.cell? ⟨wr.heap.size, 1, none⟩ = some (.int .i64 (T k)) ∧ w'.cell? ⟨wr.heap.size, 2, none⟩ = some (.int .i64 (G k)))
        (first | (go_split_ands; refine ⟨?_, ?_, ?_, ?_, ?_, ?_, ?_⟩ <;> exact keep_cell ‹_› (Nat.le_refl _) (by assumption)) | go_keep)
        (first | (go_at_call 122; refine (endsOf_any _ _ _ _).mono ?_; rintro e w2 ⟨rfl, hb2⟩; (first | have hA := below_next hA (by simp) hb2 | have hA := below_next hA.drew (by simp) hb2)) | (go_at_call 144; refine (below_any _ _ _ _ _).mono ?_; rintro e w3 ⟨rfl, hb3⟩; have hA := below_next hA (by simp) hb3))
      go_wp2
      go_roundw
      case rel => exact ⟨k + 1, by omega, by go_num, arcsB_step HOK.out ha (Or.inr hu), hA⟩
      case measure => simp [intOf]; omega
    · go_wp2_with (go_at_call 126; refine (arcOk_any _ _ _ _ _).mono ?_; rintro e w1 ⟨rfl, hb1⟩)
      have hbw1 := unbox hb1 (by simp)
      have hA := (hbel.alloc (by omega) _).trans (hb1.mono (by simp; omega))
      have s0 := keep_cell hbw1 (Nat.le_refl _) g1
      have s1 := keep_cell hbw1 (Nat.le_refl _) d0
      have s2 := keep_cell hbw1 (Nat.le_refl _) d1
      have s3 := keep_cell hbw1 (Nat.le_refl _) d2
      have s4 := keep_cell hb1 (Nat.le_refl _) (b := wr.heap.size) (o := 0) (by simp [go_sem]; rfl)
      have s5 := keep_cell hb1 (Nat.le_refl _) (b := wr.heap.size) (o := 1) (by simp [go_sem]; rfl)
      have s6 := keep_cell hb1 (Nat.le_refl _) (b := wr.heap.size) (o := 2) (by simp [go_sem]; rfl)
      go_region_held3 (fun w' => w'.cell? ⟨w.heap.size, 1, none⟩ = some (.slice (some ⟨b, o, none⟩) n cap) ∧ w'.cell? ⟨b, o + (k - 1) * 3, none⟩ = some (.int .i64 (F (k - 1))) ∧ w'.cell? ⟨b, o + (k - 1) * 3 + 1, none⟩ = some (.int .i64 (T (k - 1))) ∧ w'.cell? ⟨b, o + (k - 1) * 3 + 2, none⟩ = some (.int .i64 (G (k - 1))) ∧ w'.cell? ⟨wr.heap.size, 0, none⟩ = some (.int .i64 (F k)) ∧ w'.cell? ⟨wr.heap.size, 1, none⟩ = some (.int .i64 (T k)) ∧ w'.cell? ⟨wr.heap.size, 2, none⟩ = some (.int .i64 (G k)))
        (first | (go_split_ands; refine ⟨?_, ?_, ?_, ?_, ?_, ?_, ?_⟩ <;> exact keep_cell ‹_› (Nat.le_refl _) (by assumption)) | go_keep)
        (first | (go_at_call 122; refine (endsOf_any _ _ _ _).mono ?_; rintro e w2 ⟨rfl, hb2⟩; (first | have hA := below_next hA (by simp) hb2 | have hA := below_next hA.drew (by simp) hb2)) | (go_at_call 144; refine (below_any _ _ _ _ _).mono ?_; rintro e w3 ⟨rfl, hb3⟩; have hA := below_next hA (by simp) hb3))
      go_wp2
      go_ret
      exact ⟨ret_bool (by simp [graphB, hin.out, arcsB_down h0 hu n hlt]), unbox hA (by omega)⟩

end Go.Proofs.YteibbknpcgcjjaiGreat

/-
  Keys of two numbers, and maps of the call's own in a later world: no function of the program.
-/
set_option linter.unusedVariables false
set_option linter.unusedSimpArgs false
namespace Go.Proofs.YteibbknpcgcjjaiGreat
open Go.ChangeShapes Go.WideShapes Go.ChangeAt Go.RowKit Go.Maps

theorem key_two {P : Program} {k : TypeId} {f0 f1 : Field} (hs : P.underlying k = some (.struct #[f0, f1])) (hk : P.keyType k = true) (hC : P.cellsOf k = 2) (h0 : P.underlying f0.type = some (.int .i64)) (h1 : P.underlying f1.type = some (.int .i64))
    (o0 : f0.offset = 0) (o1 : f1.offset = 1) (c0 : P.cellsOf f0.type = 1) (c1 : P.cellsOf f1.type = 1) (n0 : (f0.name != "_") = true) (n1 : (f1.name != "_") = true) (hm : ∃ m, P.types.size = m + 1)
    {f t : Int} (hf : (Lit.int .i64 f).wf = true) (ht : (Lit.int .i64 t).wf = true) : keyOf P k (.agg #[.int .i64 f, .int .i64 t]) = some (.string (keyBytes [.int .i64 f, .int .i64 t])) := by
  obtain ⟨m, hm⟩ := hm
  simp at n0 n1
  simp [keyOf, hs, hk, Value.formed, hC, Value.cells, hm, Program.keyLits, h0, h1, o0, o1, c0, c1, n0, n1, hf, ht]

theorem ownsMap_block {H : Type} {P : Program} {k : TypeId} {R : Value → Option (DataW H × List MemPlace)} {b n : Nat} {D : DataW H} {w w' : World} (h : w.ownsMap P k R b n D) (e : w'.heap[b]? = w.heap[b]?) : w'.ownsMap P k R b n D := by
  unfold World.ownsMap at h ⊢
  rw [e]; exact h
theorem ownsMap_below {H : Type} {P : Program} {k : TypeId} {R : Value → Option (DataW H × List MemPlace)} {b n : Nat} {D : DataW H} {w w' : World} (h : w.ownsMap P k R b n D) (hb : Below w.heap.size w w') : w'.ownsMap P k R b n D :=
  ownsMap_block h (hb.block b h.lt)

end Go.Proofs.YteibbknpcgcjjaiGreat

/-
  The map from an arc's ends to its number: what its keys read as, and what it holds after so many arcs.
-/
set_option linter.unusedVariables false
set_option linter.unusedSimpArgs false
namespace Go.Proofs.YteibbknpcgcjjaiGreat
open Go.ChangeShapes Go.WideShapes Go.ChangeAt Go.RowKit Go.Maps

set_option maxRecDepth 100000 in
theorem Tryz.rowEnds : (170 : TypeId) < Tryz.prog.types.size := of_decide_eq_true (by kernel_rfl)
theorem Tryz.wideEnds : (match Tryz.prog.underlying 170 with | some (.array _ _) | some (.struct _) => true | _ => false) = true := by rw [Tryz.underlying170]
set_option maxRecDepth 100000 in
theorem Tryz.keyLaw : Keyed Tryz.prog 170 := Keyed.of_law (deep_law_laid Tryz.laidOut (m := 2) (by omega) Tryz.rowEnds (by kernel_rfl) Tryz.wideEnds)
theorem Tryz.keyType : Tryz.prog.keyType 170 = true := by kernel_rfl
theorem Tryz.cellsEnds : Tryz.prog.cellsOf 170 = 2 := by kernel_rfl
theorem Tryz.mapZero (w : World) : (zeroValue 3).run Tryz.prog w = .ok (.int .i64 0) w := by kernel_rfl
set_option maxRecDepth 100000 in
theorem Tryz.someTypes : ∃ m, Tryz.prog.types.size = m + 1 := ⟨_, (Nat.succ_pred_eq_of_pos (Nat.lt_of_le_of_lt (Nat.zero_le _) Tryz.rowEnds)).symm⟩

def kl (f t : Int) : Lit := .string (keyBytes [.int .i64 f, .int .i64 t])
set_option maxRecDepth 100000 in
theorem key_ends (f t : Int) (hf : (Lit.int .i64 f).wf = true) (ht : (Lit.int .i64 t).wf = true) : keyOf Tryz.prog 170 (.agg #[.int .i64 f, .int .i64 t]) = some (kl f t) := by
  exact key_two Tryz.underlying170 Tryz.keyType Tryz.cellsEnds Tryz.underlying2 Tryz.underlying2 rfl rfl Tryz.cellsInt Tryz.cellsInt (by decide) (by decide) Tryz.someTypes hf ht
theorem kl_inj {f t f' t' : Int} (hf : (Lit.int .i64 f).wf = true) (ht : (Lit.int .i64 t).wf = true) (hf' : (Lit.int .i64 f').wf = true) (ht' : (Lit.int .i64 t').wf = true) (h : kl f t = kl f' t') : f = f' ∧ t = t' := by
  have := Tryz.keyLaw.inj (key_ends f t hf ht) (by rw [h]; exact key_ends f' t' hf' ht')
  simpa using this
theorem kl_key (f t : Int) : WideAt.IsKeyLit (kl f t) := trivial

/-- What the map holds after k arcs. -/
def nums (F T : Nat → Int) : Nat → DataW Unit
  | 0 => .map []
  | k + 1 => (nums F T k).put (kl (F k) (T k)) (.lit (.int .i64 (k : Int)))
theorem nums_isMap (F T : Nat → Int) : ∀ k, IsMap (nums F T k)
  | 0 => isMap_empty
  | k + 1 => (nums_isMap F T k).put _ _

def WfTo (F T : Nat → Int) (n : Nat) : Prop := ∀ k, k < n → (Lit.int .i64 (F k)).wf = true ∧ (Lit.int .i64 (T k)).wf = true

/-- A look-up in it: there is none, and then the key is not there; or it is there with its last number. -/
theorem nums_look (F T : Nat → Int) (a b : Int) (ha : (Lit.int .i64 a).wf = true) (hb : (Lit.int .i64 b).wf = true) : ∀ n, WfTo F T n →
    (Maps.has (nums F T n) (kl a b) = false ∧ ∀ k, k < n → ¬ (F k = a ∧ T k = b)) ∨
    ∃ k, k < n ∧ F k = a ∧ T k = b ∧ Maps.has (nums F T n) (kl a b) = true ∧ (nums F T n).atKey (kl a b) (.lit (.int .i64 0)) = .lit (.int .i64 (k : Int))
  | 0, _ => Or.inl ⟨rfl, fun k hk => by omega⟩
  | n + 1, hw => by
    by_cases h : F n = a ∧ T n = b
    · obtain ⟨rfl, rfl⟩ := h
      exact Or.inr ⟨n, by omega, rfl, rfl, has_put_same (nums_isMap F T n) (kl_key _ _) _, atKey_put_same (nums_isMap F T n) (kl_key _ _) _ _⟩
    · have hne : kl a b ≠ kl (F n) (T n) := fun e => by
        have := kl_inj ha hb (hw n (by omega)).1 (hw n (by omega)).2 e
        exact h ⟨this.1.symm, this.2.symm⟩
      rcases nums_look F T a b ha hb n (fun k hk => hw k (by omega)) with ⟨h1, h2⟩ | ⟨k, hk, h1, h2, h3, h4⟩
      · exact Or.inl ⟨by rw [nums, has_put_other hne]; exact h1, fun k hk => by
          by_cases e : k = n
          · subst e; exact h
          · exact h2 k (by omega)⟩
      · exact Or.inr ⟨k, by omega, h1, h2, by rw [nums, has_put_other hne]; exact h3, by rw [nums, atKey_put_other hne]; exact h4⟩

theorem make_map (n : Nat) (w : World) : (Instr.makeMap 87 (some (.int .i64 (n : Int)))).run Tryz.prog w = .ok (.map (some w.heap.size)) (w.alloc (.map #[] 0)) := by
  simp [Instr.makeMap, run_underlying Tryz.underlying87, asInt, asIntOf, newObj]
  rfl

end Go.Proofs.YteibbknpcgcjjaiGreat

/-
  The program's map of arc numbers, walked: it holds the number of each arc at its ends.
-/
set_option linter.unusedVariables false
set_option linter.unusedSimpArgs false
namespace Go.Proofs.YteibbknpcgcjjaiGreat
open Go.RowKit Go.Maps

set_option maxHeartbeats 1000000 in
theorem arcNumbers_any (p : Int) (ao : Option Addr) (n cap : Nat) (F T G : Nat → Int) (hn : n ≤ 1048576) (hwf : WfTo F T n) (w : World) (hr : Row w ao n F T G) :
    Calls Tryz.prog 91 #[.agg #[.int .i64 p, .slice ao n cap]] w fun e w' => e = .returned (.map (some (w.heap.size + 1))) ∧ w'.ownsMap Tryz.prog 170 (plainElem Tryz.prog 3) (w.heap.size + 1) n (nums F T n) ∧ Below w.heap.size w w' := by
  have hmk := make_map n
  go_enter Tryz.func91, Tryz.ntmps91
  go_wp2
  clear hmk
  go_loopw [13] (fun i wr => ∃ k : Nat, k ≤ n ∧ i = .int .i64 k ∧ wr.ownsMap Tryz.prog 170 (plainElem Tryz.prog 3) (w.heap.size + 1) k (nums F T k) ∧ Below (w.heap.size + 1) (w.alloc (.cells #[.int .i64 p, .slice ao n cap] 38)) wr) (fun i _ => n - (intOf i).toNat)
  case atStart => exact ⟨0, Nat.zero_le _, rfl, by simpa [nums] using World.ownsMap_made (w.alloc (.cells #[.int .i64 p, .slice ao n cap] 38)) Tryz.prog 170 (plainElem (H := Unit) Tryz.prog 3), (Below.refl _ _).alloc (by simp) _⟩
  case round =>
    obtain ⟨k, hk, rfl, hown, hbel⟩ := hrel
    have hsz : w.heap.size + 1 < wr.heap.size := hown.lt
    by_cases hlt : k < n
    rotate_left
    · have hkn : k = n := by omega
      subst hkn
      go_wp2
      go_ret
      exact ⟨rfl, hown, unbox hbel (by omega)⟩
    obtain ⟨b, o, hao, c0, c1, c2⟩ := ((hr.alloc _).below hbel (by simp)) k hlt
    subst hao
    have hkey := key_ends (F k) (T k) (hwf k hlt).1 (hwf k hlt).2
    go_wp2_with (first | (go_at_call 122; refine (endsOf_any _ _ _ _).mono ?_; rintro e w1 ⟨rfl, hb1⟩; have hown1 := ownsMap_below (hown.alloc _) hb1) | (at_mapUpdate; refine wpList_mapUpdate_own _ rfl _ _ _ 87 rfl 170 3 Tryz.keyLaw Tryz.underlying87 _ (w.heap.size + 1) k _ rfl hown1 (by unfold maxLen; omega) _ _ _ rfl rfl hkey _ [] (plainElem_int Tryz.underlying3 (WalkArith.wf_i64 (by omega))) ?_; intro w2 hown2 hgrow2))
    go_wp2
    go_roundw
    case rel => exact ⟨k + 1, by omega, by go_num, hown2, (below_next (hbel.alloc (by omega) _) (by simp) hb1).grown hgrow2 (by have := hb1.size; simp at this; omega) (fun j hj => by cases hj; exact Nat.le_refl _)⟩
    case measure => simp [intOf]; omega

end Go.Proofs.YteibbknpcgcjjaiGreat

/-
  The map from an edge to its number: what its keys read as, and what it holds after so many edges; the walk that fills it.
-/
set_option linter.unusedVariables false
set_option linter.unusedSimpArgs false
namespace Go.Proofs.YteibbknpcgcjjaiGreat
open Go.ChangeShapes Go.WideShapes Go.ChangeAt Go.RowKit Go.Maps

set_option maxRecDepth 100000 in
theorem Tryz.rowEdge : (122 : TypeId) < Tryz.prog.types.size := of_decide_eq_true (by kernel_rfl)
theorem Tryz.wideEdge : (match Tryz.prog.underlying 122 with | some (.array _ _) | some (.struct _) => true | _ => false) = true := by rw [Tryz.underlying122]
set_option maxRecDepth 100000 in
theorem Tryz.keyLawE : Keyed Tryz.prog 122 := Keyed.of_law (deep_law_laid Tryz.laidOut (m := 2) (by omega) Tryz.rowEdge (by kernel_rfl) Tryz.wideEdge)
theorem Tryz.keyTypeE : Tryz.prog.keyType 122 = true := by kernel_rfl
theorem Tryz.cellsEdge : Tryz.prog.cellsOf 122 = 2 := by kernel_rfl
theorem Tryz.mapZeroE (w : World) : (zeroValue 3).run Tryz.prog w = .ok (.int .i64 0) w := by kernel_rfl
set_option maxRecDepth 100000 in
theorem Tryz.someTypesE : ∃ m, Tryz.prog.types.size = m + 1 := ⟨_, (Nat.succ_pred_eq_of_pos (Nat.lt_of_le_of_lt (Nat.zero_le _) Tryz.rowEdge)).symm⟩

def ekl (f t : Int) : Lit := .string (keyBytes [.int .i64 f, .int .i64 t])
set_option maxRecDepth 100000 in
theorem key_edge (f t : Int) (hf : (Lit.int .i64 f).wf = true) (ht : (Lit.int .i64 t).wf = true) : keyOf Tryz.prog 122 (.agg #[.int .i64 f, .int .i64 t]) = some (ekl f t) := by
  exact key_two Tryz.underlying122 Tryz.keyTypeE Tryz.cellsEdge Tryz.underlying2 Tryz.underlying2 rfl rfl Tryz.cellsInt Tryz.cellsInt (by decide) (by decide) Tryz.someTypesE hf ht
theorem ekl_inj {f t f' t' : Int} (hf : (Lit.int .i64 f).wf = true) (ht : (Lit.int .i64 t).wf = true) (hf' : (Lit.int .i64 f').wf = true) (ht' : (Lit.int .i64 t').wf = true) (h : ekl f t = ekl f' t') : f = f' ∧ t = t' := by
  have := Tryz.keyLawE.inj (key_edge f t hf ht) (by rw [h]; exact key_edge f' t' hf' ht')
  simpa using this
theorem ekl_key (f t : Int) : WideAt.IsKeyLit (ekl f t) := trivial

/-- What the map holds after k edges. -/
def enums (F T : Nat → Int) : Nat → DataW Unit
  | 0 => .map []
  | k + 1 => (enums F T k).put (ekl (F k) (T k)) (.lit (.int .i64 (k : Int)))
theorem enums_isMap (F T : Nat → Int) : ∀ k, IsMap (enums F T k)
  | 0 => isMap_empty
  | k + 1 => (enums_isMap F T k).put _ _

def EWf (F T : Nat → Int) (n : Nat) : Prop := ∀ k, k < n → (Lit.int .i64 (F k)).wf = true ∧ (Lit.int .i64 (T k)).wf = true

/-- A look-up in it: there is none, and then the key is not there; or it is there with its last number. -/
theorem enums_look (F T : Nat → Int) (a b : Int) (ha : (Lit.int .i64 a).wf = true) (hb : (Lit.int .i64 b).wf = true) : ∀ n, EWf F T n →
    (Maps.has (enums F T n) (ekl a b) = false ∧ ∀ k, k < n → ¬ (F k = a ∧ T k = b)) ∨
    ∃ k, k < n ∧ F k = a ∧ T k = b ∧ Maps.has (enums F T n) (ekl a b) = true ∧ (enums F T n).atKey (ekl a b) (.lit (.int .i64 0)) = .lit (.int .i64 (k : Int))
  | 0, _ => Or.inl ⟨rfl, fun k hk => by omega⟩
  | n + 1, hw => by
    by_cases h : F n = a ∧ T n = b
    · obtain ⟨rfl, rfl⟩ := h
      exact Or.inr ⟨n, by omega, rfl, rfl, has_put_same (enums_isMap F T n) (ekl_key _ _) _, atKey_put_same (enums_isMap F T n) (ekl_key _ _) _ _⟩
    · have hne : ekl a b ≠ ekl (F n) (T n) := fun e => by
        have := ekl_inj ha hb (hw n (by omega)).1 (hw n (by omega)).2 e
        exact h ⟨this.1.symm, this.2.symm⟩
      rcases enums_look F T a b ha hb n (fun k hk => hw k (by omega)) with ⟨h1, h2⟩ | ⟨k, hk, h1, h2, h3, h4⟩
      · exact Or.inl ⟨by rw [enums, has_put_other hne]; exact h1, fun k hk => by
          by_cases e : k = n
          · subst e; exact h
          · exact h2 k (by omega)⟩
      · exact Or.inr ⟨k, by omega, h1, h2, by rw [enums, has_put_other hne]; exact h3, by rw [enums, atKey_put_other hne]; exact h4⟩

theorem make_emap (n : Nat) (w : World) : (Instr.makeMap 88 (some (.int .i64 (n : Int)))).run Tryz.prog w = .ok (.map (some w.heap.size)) (w.alloc (.map #[] 0)) := by
  simp [Instr.makeMap, run_underlying Tryz.underlying88, asInt, asIntOf, newObj]
  rfl

set_option maxHeartbeats 1000000 in
theorem edgeNumbers_any (ao : Option Addr) (n cap : Nat) (L H : Nat → Int) (hn : n ≤ 1048576) (hwf : EWf L H n) (w : World) (hr : ERow w ao n L H) :
    Calls Tryz.prog 92 #[.slice ao n cap] w fun e w' => e = .returned (.map (some w.heap.size)) ∧ w'.ownsMap Tryz.prog 122 (plainElem Tryz.prog 3) w.heap.size n (enums L H n) ∧ Below w.heap.size w w' := by
  have hmk := make_emap n
  go_enter Tryz.func92, Tryz.ntmps92
  go_wp2
  clear hmk
  go_loopw [11] (fun i wr => ∃ k : Nat, k ≤ n ∧ i = .int .i64 k ∧ wr.ownsMap Tryz.prog 122 (plainElem Tryz.prog 3) w.heap.size k (enums L H k) ∧ Below w.heap.size w wr) (fun i _ => n - (intOf i).toNat)
  case atStart => exact ⟨0, Nat.zero_le _, rfl, by simpa [enums] using World.ownsMap_made w Tryz.prog 122 (plainElem (H := Unit) Tryz.prog 3), (Below.refl _ _).alloc (by simp) _⟩
  case round =>
    obtain ⟨k, hk, rfl, hown, hbel⟩ := hrel
    have hlt0 : w.heap.size < wr.heap.size := hown.lt
    by_cases hlt : k < n
    rotate_left
    · have hkn : k = n := by omega
      subst hkn
      go_wp2
      go_ret
      exact ⟨rfl, hown, hbel⟩
    obtain ⟨b, o, hao, c0, c1⟩ := (hr.below hbel (Nat.le_refl _)) k hlt
    subst hao
    have hkey := key_edge (L k) (H k) (hwf k hlt).1 (hwf k hlt).2
    have hown1 := hown.alloc (.cells #[.int .i64 (L k), .int .i64 (H k)] 122)
    have hbel1 := hbel.alloc (o := .cells #[.int .i64 (L k), .int .i64 (H k)] 122) hbel.size
    go_wp2_with (at_mapUpdate; refine wpList_mapUpdate_own _ rfl _ _ _ 88 rfl 122 3 Tryz.keyLawE Tryz.underlying88 _ w.heap.size k _ rfl hown1 (by unfold maxLen; omega) _ _ _ rfl rfl hkey _ [] (plainElem_int Tryz.underlying3 (WalkArith.wf_i64 (by omega))) ?_; intro w2 hown2 hgrow2)
    go_wp2
    go_roundw
    case rel => exact ⟨k + 1, by omega, by go_num, hown2, hbel1.grown hgrow2 (by simp; omega) (fun j hj => by cases hj; exact Nat.le_refl _)⟩
    case measure => simp [intOf]; omega

end Go.Proofs.YteibbknpcgcjjaiGreat

/-
  Two boxes of two cells: an argument's and the result's, in a later world.
-/
set_option linter.unusedVariables false
set_option linter.unusedSimpArgs false
namespace Go.Proofs.YteibbknpcgcjjaiGreat
open Go.RowKit Go.Maps
attribute [local go_sem ↓] Go.wp_at_zero Go.wp_at_succ

/-- The boxes of an argument and of a result, each of two cells, in a later world. -/
theorem box22 {w W : World} {a0 a1 c0 c1 : Value} {s t : TypeId} (h : Below (w.heap.size + 2) ((w.alloc (.cells #[a0, a1] s)).alloc (.cells #[c0, c1] t)) W) :
    (W.cell? ⟨w.heap.size, 0, none⟩ = some a0 ∧ W.cell? ⟨w.heap.size, 1, none⟩ = some a1) ∧ (W.cell? ⟨w.heap.size + 1, 0, none⟩ = some c0 ∧ W.cell? ⟨w.heap.size + 1, 1, none⟩ = some c1) ∧ (W.frozen? ⟨w.heap.size + 1, 0, none⟩ = false ∧ W.frozen? ⟨w.heap.size + 1, 1, none⟩ = false) ∧ w.heap.size + 2 ≤ W.heap.size := by
  refine ⟨⟨by rw [h.cell (by simp)]; simp [go_sem], by rw [h.cell (by simp)]; simp [go_sem]⟩, ⟨by rw [h.cell (by simp)]; simp [go_sem], by rw [h.cell (by simp)]; simp [go_sem]⟩, ⟨by rw [h.frozen (by simp)]; simp [go_sem], by rw [h.frozen (by simp)]; simp [go_sem]⟩, by have := h.size; simp at this; omega⟩
theorem unbox2 {w w' : World} {o1 o2 : Obj} {B : Nat} (h : Below B ((w.alloc o1).alloc o2) w') (hB : w.heap.size ≤ B) : Below w.heap.size w w' :=
  (((Below.refl _ _).alloc (Nat.le_refl _) _).alloc (by simp) _).trans (h.mono hB)

/-- What is written into the result's box turns nothing else. -/
theorem ret_block {W : World} {s b : Nat} (a c : Value) (hne : b ≠ s) : ((W.setCell ⟨s, 0, none⟩ a).setCell ⟨s, 1, none⟩ c).heap[b]? = W.heap[b]? :=
  (Below.heap_setCell _ _ _ _ (fun e => hne e)).trans (Below.heap_setCell _ _ _ _ (fun e => hne e))
theorem ret_below {B : Nat} {w W : World} {s : Nat} (h : Below B w W) (hB : B ≤ s) (a c : Value) : Below B w ((W.setCell ⟨s, 0, none⟩ a).setCell ⟨s, 1, none⟩ c) := (h.setCell hB a).setCell hB c

end Go.Proofs.YteibbknpcgcjjaiGreat

/-
  Two lists of numbers held against each other, the document's way and the program's: of metrics.
-/
set_option linter.unusedVariables false
set_option linter.unusedSimpArgs false
namespace Go.Proofs.YteibbknpcgcjjaiGreat
open Go.RowKit Go.Deep Go.Joins
attribute [local go_sem ↓] Go.wp_at_zero Go.wp_at_succ

/-- Two lists of numbers are the same. -/
def SameI (n m : Nat) (f g : Nat → Int) : Prop := n = m ∧ ∀ i, i < n → f i = g i
set_option maxHeartbeats 1000000 in
theorem equalI_any (ao ao' : Option Addr) (n m cap cap' : Nat) (f g : Nat → Int) (hn : n ≤ 1048576) (hm : m ≤ 1048576) (w : World) (hr : IRow w ao n f) (hr' : IRow w ao' m g) :
    Calls Tryz.prog 115 #[.slice ao n cap, .slice ao' m cap'] w fun e w' => BAns e (SameI n m f g) ∧ Below w.heap.size w w' := by
  by_cases hnm : n = m
  rotate_left
  · have HN : Hid (¬ SameI n m f g) := fun h => hnm h.1
    have hnm' : ¬ (n : Int) = (m : Int) := by omega
    go_enter Tryz.func115, Tryz.ntmps115
    go_wp2
    go_ret
    exact ⟨bans_no HN.out, Below.refl _ _⟩
  subst hnm
  go_enter Tryz.func115, Tryz.ntmps115
  go_wp2
  go_loopw [13] (fun x wr => ∃ k : Nat, k ≤ n ∧ x = .int .i64 k ∧ (∀ i, i < k → f i = g i) ∧ Below w.heap.size w wr) (fun x _ => n - (intOf x).toNat)
  case atStart => exact ⟨0, Nat.zero_le _, rfl, fun i hi => by omega, Below.refl _ _⟩
  case round =>
    obtain ⟨k, hk, rfl, hall, hbel⟩ := hrel
    have HA : Hid (∀ i, i < k → f i = g i) := hall
    clear hall
    by_cases hlt : k < n
    rotate_left
    · have hkn : k = n := by omega
      subst hkn
      go_wp2
      go_ret
      exact ⟨bans_yes ⟨rfl, HA.out⟩, hbel⟩
    obtain ⟨b, o, hao, c0⟩ := (hr.below hbel (Nat.le_refl _)) k hlt
    subst hao
    obtain ⟨b', o', hao', d0⟩ := (hr'.below hbel (Nat.le_refl _)) k hlt
    subst hao'
    have hk1 : (0 : Int) ≤ (k : Int) := by omega
    have hk2 : (k : Int) < (n : Int) := by omega
    by_cases he : f k = g k
    · have HE : Hid (f k = g k) := he
      rw [← he] at d0
      clear he
      go_wp2
      (try go_quiet (fail))
      go_wp2
      go_roundw
      case rel => exact ⟨k + 1, by omega, by go_num, fun i hi => by
        by_cases x : i = k
        · subst x; exact HE.out
        · exact HA.out i (by omega), by first | exact below_drewN hbel _ | exact hbel⟩
      case measure => simp [intOf]; omega
    · have HE : Hid (¬ SameI n n f g) := fun h => he (h.2 k hlt)
      go_wp2
      (try go_quiet (fail))
      go_wp2
      go_ret
      exact ⟨bans_no HE.out, by first | exact below_drewN hbel _ | exact hbel⟩

set_option maxHeartbeats 2000000 in
theorem sameMetric_any (ao : Option Addr) (n acap : Nat) (f : Nat → Int) (bo : Option Addr) (m bcap : Nat) (g : Nat → Int) (co : Option Addr) (u ccap : Nat) (f' : Nat → Int) (dO : Option Addr) (v dcap : Nat) (g' : Nat → Int) (hn : n ≤ 1048576) (hm : m ≤ 1048576) (hu : u ≤ 1048576) (hv : v ≤ 1048576) (w : World) (ha : IRow w ao n f) (hb : IRow w bo m g) (hc : IRow w co u f') (hd : IRow w dO v g') :
    Calls Tryz.prog 86 #[.agg #[.slice ao n acap, .slice bo m bcap], .agg #[.slice co u ccap, .slice dO v dcap]] w fun e w' => BAns e (SameI n u f f' ∧ SameI m v g g') ∧ Below w.heap.size w w' := by
  have hB0 : Below w.heap.size w ((w.alloc (.cells #[.slice ao n acap, .slice bo m bcap] 44)).alloc (.cells #[.slice co u ccap, .slice dO v dcap] 44)) := ((Below.refl _ w).alloc (Nat.le_refl _) _).alloc (by simp) _
  have q1 : ((w.alloc (.cells #[.slice ao n acap, .slice bo m bcap] 44)).alloc (.cells #[.slice co u ccap, .slice dO v dcap] 44)).cell? ⟨w.heap.size, 1, none⟩ = some (.slice bo m bcap) := by simp [go_sem]
  have q3 : ((w.alloc (.cells #[.slice ao n acap, .slice bo m bcap] 44)).alloc (.cells #[.slice co u ccap, .slice dO v dcap] 44)).cell? ⟨w.heap.size + 1, 1, none⟩ = some (.slice dO v dcap) := by simp [go_sem]
  go_enter Tryz.func86, Tryz.ntmps86
  go_wp2_with fail
  refine (equalI_any ao co n u acap ccap f f' hn hu _ (ha.below hB0 (Nat.le_refl _)) (hc.below hB0 (Nat.le_refl _))).mono ?_
  rintro e w1 ⟨⟨x, rfl, hx⟩, hb1⟩
  replace q1 := keep_cell hb1 (Nat.le_refl _) q1
  replace q3 := keep_cell hb1 (Nat.le_refl _) q3
  have hB1 := below_next hB0 (Nat.le_refl _) hb1
  clear hb1 hB0
  cases x
  · have HN : Hid (¬ (SameI n u f f' ∧ SameI m v g g')) := fun y => by have := hx.2 y.1; cases this
    clear hx
    go_wp2
    go_ret
    exact ⟨bans_no HN.out, hB1⟩
  have HY : Hid (SameI n u f f') := hx.1 rfl
  clear hx
  go_wp2_with fail
  refine (equalI_any bo dO m v bcap dcap g g' hm hv _ (hb.below hB1 (Nat.le_refl _)) (hd.below hB1 (Nat.le_refl _))).mono ?_
  rintro e w2 ⟨⟨x, rfl, hx⟩, hb2⟩
  have hB2 := below_next hB1 (Nat.le_refl _) hb2
  clear hb2 hB1
  go_wp2
  go_ret
  exact ⟨⟨x, rfl, hx.trans ⟨fun h => ⟨HY.out, h⟩, fun h => h.2⟩⟩, hB2⟩

end Go.Proofs.YteibbknpcgcjjaiGreat

/-
  Memory of the call's own, cell by cell: a block that may be written and whose first cells are known.
-/
set_option linter.unusedVariables false
set_option linter.unusedSimpArgs false
namespace Go.Proofs.YteibbknpcgcjjaiGreat
open Go.RowKit

/-- Block b, of type t, begins with the n cells f and may be written. -/
def VHas (w : World) (b : Nat) (t : TypeId) (n : Nat) (f : Nat → Value) : Prop := ∃ cur : Array Value, w.heap[b]? = some (.cells cur t (0, 0)) ∧ n ≤ cur.size ∧ ∀ j, j < n → cur[j]? = some (f j)
theorem VHas.cell {w : World} {b n : Nat} {t : TypeId} {f : Nat → Value} (h : VHas w b t n f) {j : Nat} (hj : j < n) : w.cell? ⟨b, j, none⟩ = some (f j) := by
  obtain ⟨c, hb, _, hc⟩ := h
  simp [World.cell?, hb, hc j hj]
theorem VHas.frozen {w : World} {b n : Nat} {t : TypeId} {f : Nat → Value} (h : VHas w b t n f) (j : Nat) : w.frozen? ⟨b, j, none⟩ = false := by
  obtain ⟨c, hb, _, _⟩ := h
  simp [World.frozen?, hb]
theorem VHas.lt {w : World} {b n : Nat} {t : TypeId} {f : Nat → Value} (h : VHas w b t n f) : b < w.heap.size := by
  obtain ⟨c, hb, _, _⟩ := h
  exact (Array.getElem?_eq_some_iff.1 hb).1
theorem VHas.of_block {w w' : World} {b n : Nat} {t : TypeId} {f : Nat → Value} (h : VHas w b t n f) (e : w'.heap[b]? = w.heap[b]?) : VHas w' b t n f := by
  obtain ⟨c, hb, hn, hc⟩ := h
  exact ⟨c, e.trans hb, hn, hc⟩
theorem VHas.congr {w : World} {b n : Nat} {t : TypeId} {f g : Nat → Value} (h : VHas w b t n f) (e : ∀ j, j < n → f j = g j) : VHas w b t n g := by
  obtain ⟨c, hb, hn, hc⟩ := h
  exact ⟨c, hb, hn, fun j hj => by rw [hc j hj, e j hj]⟩
theorem VHas.set {w : World} {b n : Nat} {t : TypeId} {f : Nat → Value} (h : VHas w b t n f) (i : Nat) (v : Value) : VHas (w.setCell ⟨b, i, none⟩ v) b t n (fun j => if j = i then v else f j) := by
  obtain ⟨c, hb, hn, hc⟩ := h
  refine ⟨c.setIfInBounds i v, ?_, by simpa using hn, fun j hj => ?_⟩
  · simp [World.setCell, Array.getElem?_modify, hb]
  · rw [Array.getElem?_setIfInBounds]
    by_cases e : j = i
    · subst e
      simp; omega
    · rw [if_neg (fun h => e h.symm)]
      show c[j]? = some (if j = i then v else f j)
      rw [if_neg e]
      exact hc j hj
theorem VHas.other {w : World} {b n c i : Nat} {t : TypeId} {f : Nat → Value} (h : VHas w b t n f) (hne : b ≠ c) (v : Value) : VHas (w.setCell ⟨c, i, none⟩ v) b t n f := h.of_block (Below.heap_setCell _ _ _ _ (fun e => hne (by simpa using e)))
theorem VHas.below {w w' : World} {b n B : Nat} {t : TypeId} {f : Nat → Value} (h : VHas w b t n f) (hb : Below B w w') (hB : b < B) : VHas w' b t n f := h.of_block (hb.block b hB)
theorem VHas.next {w w' : World} {b n : Nat} {t : TypeId} {f : Nat → Value} (h : VHas w b t n f) (hb : Below w.heap.size w w') : VHas w' b t n f := h.below hb h.lt
theorem VHas.alloc {w : World} {b n : Nat} {t : TypeId} {f : Nat → Value} (h : VHas w b t n f) (o : Obj) : VHas (w.alloc o) b t n f := h.next ((Below.refl _ _).alloc (Nat.le_refl _) _)
theorem VHas.grown {w w' : World} {b n : Nat} {t : TypeId} {f : Nat → Value} {row : Option Nat} (h : VHas w b t n f) (hg : w.grownBy w' row) (hne : some b ≠ row) : VHas w' b t n f := h.of_block (hg.block b h.lt hne)
theorem VHas.of_row {w : World} {b n : Nat} {t : TypeId} {f : Nat → Value} (h : w.rowIs b t n f) : VHas w b t n f := by
  obtain ⟨c, hb, hn, hc⟩ := h
  exact ⟨c, hb, by omega, hc⟩

end Go.Proofs.YteibbknpcgcjjaiGreat

/-
  Weights of edges over triangles, with no program in sight.
-/
set_option linter.unusedVariables false
set_option linter.unusedSimpArgs false
namespace Go.Proofs.YteibbknpcgcjjaiGreat

/-- What one triangle does: first the weights up, then those down. -/
def stU (s : (Nat → Int) × (Nat → Int)) (t : Tr) : Nat → Int := fun j => if j = t.2.2 then min (s.1 t.2.2) (upT s.1 s.2 t) else s.1 j
def stT (s : (Nat → Int) × (Nat → Int)) (t : Tr) : (Nat → Int) × (Nat → Int) := (stU s t, fun j => if j = t.2.2 then min (s.2 t.2.2) (dnT (stU s t) s.2 t) else s.2 j)
def runT (s : (Nat → Int) × (Nat → Int)) (l : List Tr) : (Nat → Int) × (Nat → Int) := l.foldl stT s
theorem runT_nil (s : (Nat → Int) × (Nat → Int)) : runT s [] = s := rfl
theorem runT_snoc (s : (Nat → Int) × (Nat → Int)) (l : List Tr) (t : Tr) : runT s (l ++ [t]) = stT (runT s l) t := by simp [runT]
theorem stU_in {m : Nat} {L H : Nat → Int} {s : (Nat → Int) × (Nat → Int)} {t : Tr} (ht : TOk m L H t) (h1 : InF m s.1) (h2 : InF m s.2) : InF m (stU s t) := fun j hj => by
  have a := h1 j hj
  have b := h1 t.2.2 ht.2.2.1
  have c := h1 t.2.1 ht.2.1
  have d := h2 t.1 (by have := ht.1; have := ht.2.1; omega)
  unfold stU upT
  split <;> omega
theorem stT_in {m : Nat} {L H : Nat → Int} {s : (Nat → Int) × (Nat → Int)} {t : Tr} (ht : TOk m L H t) (h1 : InF m s.1) (h2 : InF m s.2) : InF m (stT s t).1 ∧ InF m (stT s t).2 := by
  have hu := stU_in ht h1 h2
  refine ⟨hu, fun j hj => ?_⟩
  have a := h2 j hj
  have b := h2 t.2.2 ht.2.2.1
  have c := h2 t.2.1 ht.2.1
  have d := hu t.1 (by have := ht.1; have := ht.2.1; omega)
  unfold stT dnT
  simp only
  split <;> omega
theorem runT_in {m : Nat} {L H : Nat → Int} {s : (Nat → Int) × (Nat → Int)} (h1 : InF m s.1) (h2 : InF m s.2) : ∀ l : List Tr, (∀ t ∈ l, TOk m L H t) → InF m (runT s l).1 ∧ InF m (runT s l).2 := by
  intro l
  induction l generalizing s with
  | nil => intro _; exact ⟨h1, h2⟩
  | cons t l ih =>
    intro h
    have ht := stT_in (h t (by simp)) h1 h2
    exact ih ht.1 ht.2 (fun x hx => h x (by simp [hx]))

end Go.Proofs.YteibbknpcgcjjaiGreat

/-
  Ranks, the plain part: which numbers were seen, each number's place in a list, and that a list of n numbers below n, none twice, has them all.
-/
set_option linter.unusedVariables false
set_option linter.unusedSimpArgs false
namespace Go.Proofs.YteibbknpcgcjjaiGreat

/-- Was q among the first k numbers? -/
def sn (P : Nat → Int) : Nat → Nat → Bool
  | 0, _ => false
  | k + 1, q => (P k == (q : Int)) || sn P k q
theorem sn_succ (P : Nat → Int) (k q : Nat) : sn P (k + 1) q = ((P k == (q : Int)) || sn P k q) := rfl
/-- The last place among the first k at which q stands, else z. -/
def rk (P : Nat → Int) (z : Int) : Nat → Nat → Int
  | 0, _ => z
  | k + 1, q => if P k = (q : Int) then (k : Int) else rk P z k q
/-- The first k numbers are below m, none twice. -/
def eachB (m : Nat) (P : Nat → Int) : Nat → Bool
  | 0 => true
  | k + 1 => eachB m P k && (inB (P k) 0 ((m : Int) - 1) && !sn P k (P k).toNat)

theorem rk_sn (P : Nat → Int) : ∀ k q, (sn P k q = true ↔ 0 ≤ rk P (-1) k q)
  | 0, q => by simp [sn, rk]
  | k + 1, q => by
    unfold sn rk
    have := rk_sn P k q
    by_cases h : P k = (q : Int)
    · simp [h]
    · simp [h, this]
theorem rk_same (P : Nat → Int) (z z' : Int) : ∀ k q, sn P k q = true → rk P z k q = rk P z' k q
  | 0, q, h => by simp [sn] at h
  | k + 1, q, h => by
    unfold sn at h
    unfold rk
    by_cases e : P k = (q : Int)
    · simp [e]
    · rw [if_neg e, if_neg e]
      exact rk_same P z z' k q (by simpa [e] using h)
theorem rk_hi (P : Nat → Int) : ∀ k q, rk P (-1) k q < (k : Int) ∧ -1 ≤ rk P (-1) k q
  | 0, q => by simp [rk]
  | k + 1, q => by
    unfold rk
    have := rk_hi P k q
    split <;> omega
theorem eachB_le {m : Nat} {P : Nat → Int} : ∀ n, eachB m P n = true → ∀ k, k ≤ n → eachB m P k = true
  | 0, h, k, hk => by
    have : k = 0 := by omega
    subst this; rfl
  | n + 1, h, k, hk => by
    by_cases e : k = n + 1
    · subst e; exact h
    · simp [eachB] at h
      exact eachB_le n h.1 k (by omega)
theorem eachB_no {m : Nat} {P : Nat → Int} {k n : Nat} (h : eachB m P (k + 1) = false) (hk : k < n) : eachB m P n = false := by
  cases hn : eachB m P n
  · rfl
  · rw [eachB_le n hn (k + 1) (by omega)] at h; cases h

theorem sn_at {P : Nat → Int} {k q : Nat} (h : P k = (q : Int)) (j : Nat) : sn P (k + 1) j = if j = q then true else sn P k j := by
  rw [sn_succ, h]
  by_cases e : j = q
  · simp [e]
  · have h1 : ((q : Int) == (j : Int)) = false := by rw [Bool.eq_false_iff]; simp; omega
    rw [h1, if_neg e]; rfl
theorem rk_at {P : Nat → Int} {z : Int} {k q : Nat} (h : P k = (q : Int)) (j : Nat) : rk P z (k + 1) j = if j = q then (k : Int) else rk P z k j := by
  show (if P k = (j : Int) then (k : Int) else rk P z k j) = _
  by_cases e : j = q
  · rw [if_pos e, if_pos (by omega)]
  · rw [if_neg e, if_neg (by omega)]
theorem eachB_at {m : Nat} {P : Nat → Int} {k q : Nat} (he : eachB m P k = true) (h : P k = (q : Int)) (hi : inB (P k) 0 ((m : Int) - 1) = true) : eachB m P (k + 1) = !sn P k q := by
  show (eachB m P k && (inB (P k) 0 ((m : Int) - 1) && !sn P k (P k).toNat)) = _
  rw [he, hi, h]
  simp

/-- How many of the first n are there. -/
def cntB (f : Nat → Bool) : Nat → Nat
  | 0 => 0
  | n + 1 => cntB f n + (if f n then 1 else 0)
theorem cntB_le (f : Nat → Bool) : ∀ n, cntB f n ≤ n
  | 0 => Nat.le_refl _
  | n + 1 => by unfold cntB; have := cntB_le f n; split <;> omega
theorem cntB_congr {f g : Nat → Bool} : ∀ n, (∀ q, q < n → f q = g q) → cntB f n = cntB g n
  | 0, _ => rfl
  | n + 1, h => by unfold cntB; rw [cntB_congr n (fun q hq => h q (by omega)), h n (by omega)]
theorem cntB_full {f : Nat → Bool} : ∀ n, cntB f n = n → ∀ q, q < n → f q = true
  | 0, _, q, hq => by omega
  | n + 1, h, q, hq => by
    unfold cntB at h
    have hl := cntB_le f n
    cases hf : f n
    · rw [hf] at h; simp at h; omega
    · rw [hf] at h
      simp at h
      by_cases e : q = n
      · subst e; exact hf
      · exact cntB_full n (by omega) q (by omega)
theorem cntB_set {f g : Nat → Bool} {i : Nat} : ∀ n, i < n → f i = false → (∀ q, q < n → g q = (q == i || f q)) → cntB g n = cntB f n + 1
  | 0, hi, _, _ => by omega
  | n + 1, hi, h0, hg => by
    unfold cntB
    rw [hg n (by omega)]
    by_cases e : i = n
    · subst e
      have e2 : cntB g i = cntB f i := cntB_congr i (fun q hq => by
        rw [hg q (by omega)]
        have : q ≠ i := by omega
        simp [this])
      rw [e2, h0]
      simp
    · have : n ≠ i := fun h => e h.symm
      rw [cntB_set n (by omega) h0 (fun q hq => hg q (by omega))]
      simp [this]; omega
theorem cntB_less {f : Nat → Bool} {i n : Nat} (hi : i < n) (h : f i = false) : cntB f n < n := by
  have h1 := cntB_le f n
  by_cases e : cntB f n = n
  · have := cntB_full n e i hi
    rw [h] at this; cases this
  · omega

theorem cnt_sn {m : Nat} {P : Nat → Int} : ∀ k, eachB m P k = true → cntB (sn P k) m = k
  | 0, _ => by
    have : ∀ n, cntB (sn P 0) n = 0 := fun n => by
      induction n with
      | zero => rfl
      | succ n ih => unfold cntB; rw [ih]; simp [sn]
    exact this m
  | k + 1, h => by
    simp [eachB, inB] at h
    obtain ⟨h1, ⟨h2, h3⟩, h4⟩ := h
    have := cnt_sn k h1
    have e := cntB_set (f := sn P k) (g := sn P (k + 1)) (i := (P k).toNat) m (by omega) h4 (fun q hq => by
      rw [sn_succ]
      congr 1
      rw [Bool.eq_iff_iff, beq_iff_eq, beq_iff_eq]
      omega)
    omega
theorem each_all {n : Nat} {P : Nat → Int} (h : eachB n P n = true) : ∀ q, q < n → sn P n q = true := cntB_full n (cnt_sn n h)

/-- The length of what Ranks answers. -/
def okR (n : Nat) (P : Nat → Int) : Bool := decide (1 ≤ n) && (decide (n ≤ 24) && eachB n P n)
def lenR (n : Nat) (P : Nat → Int) : Nat := if okR n P then n else 0
theorem lenR_le (n : Nat) (P : Nat → Int) : lenR n P ≤ 24 := by
  unfold lenR
  split
  · next h => simp [okR] at h; omega
  · omega

end Go.Proofs.YteibbknpcgcjjaiGreat
