/-
  Helpers, merged: Clm, ClmP, ShA, UnP, Grow, OwnI, UnL, LWeigh, Add, Skips, UnS.
-/
import Derived.Test.YteibbknpcgcjjaiGreatPack1
import Derived.Deep.AppendLies
import Derived.Test.YteibbknpcgcjjaiGreatRows
import Derived.Deep.RegionHeld
/-
  Sums along edges upward, with no program in sight, and the rank where two of them meet.
-/
set_option linter.unusedVariables false
set_option linter.unusedSimpArgs false
namespace Go.Proofs.YteibbknpcgcjjaiGreat

/-- The sums from rank s behind i edges. -/
def cl (L H W : Nat → Int) (s : Nat) : Nat → (Nat → Int)
  | 0 => fun r => if r = s then 0 else 1000000000000
  | i + 1 => fun r => if r = (H i).toNat then min (cl L H W s i (H i).toNat) (min 1000000000000 (cl L H W s i (L i).toNat + W i)) else cl L H W s i r
theorem cl_in {m : Nat} {L H W : Nat → Int} (s : Nat) (hW : InF m W) : ∀ i, i ≤ m → ∀ r, 0 ≤ cl L H W s i r ∧ cl L H W s i r ≤ 1000000000000
  | 0, _, r => by unfold cl; split <;> omega
  | i + 1, hi, r => by
    have h1 := cl_in (L := L) (H := H) s hW i (by omega) (H i).toNat
    have h2 := cl_in (L := L) (H := H) s hW i (by omega) (L i).toNat
    have h3 := cl_in (L := L) (H := H) s hW i (by omega) r
    have h4 := hW i (by omega)
    unfold cl
    split <;> omega
theorem cl_far {k m : Nat} {L H W : Nat → Int} {s : Nat} (hs : s < k) (hH : ∀ i, i < m → 0 ≤ H i ∧ H i < (k : Int)) : ∀ i, i ≤ m → ∀ r, k ≤ r → cl L H W s i r = 1000000000000
  | 0, _, r, hr => by unfold cl; rw [if_neg (by omega)]
  | i + 1, hi, r, hr => by
    have h1 := hH i (by omega)
    unfold cl
    rw [if_neg (by omega)]
    exact cl_far hs hH i (by omega) r hr

/-- The rank of the least sum, and that sum. -/
def mt (A B : Nat → Int) : Nat → Int × Int
  | 0 => (-1, 1000000000000)
  | i + 1 => if min 1000000000000 (A i + B i) < (mt A B i).2 then ((i : Int), min 1000000000000 (A i + B i)) else mt A B i
theorem mt_yes {A B : Nat → Int} {i : Nat} {a b : Int} (h : mt A B i = (a, b)) (hl : min 1000000000000 (A i + B i) < b) : mt A B (i + 1) = ((i : Int), min 1000000000000 (A i + B i)) := by
  unfold mt; rw [h]; simp only; rw [if_pos hl]
theorem mt_no {A B : Nat → Int} {i : Nat} {a b : Int} (h : mt A B i = (a, b)) (hl : ¬ min 1000000000000 (A i + B i) < b) : mt A B (i + 1) = (a, b) := by
  unfold mt; rw [h]; simp only; rw [if_neg hl]
theorem mt_le (A B : Nat → Int) : ∀ i, (mt A B i).2 ≤ 1000000000000
  | 0 => by unfold mt; simp
  | i + 1 => by
    have := mt_le A B i
    unfold mt
    split
    · simp only; omega
    · exact this
theorem mt_far {A B : Nat → Int} {k : Nat} (hA : ∀ r, k ≤ r → A r = 1000000000000) (hB : ∀ r, 0 ≤ B r) : ∀ j, mt A B (k + j) = mt A B k
  | 0 => rfl
  | j + 1 => by
    have h := mt_far hA hB j
    have h1 := mt_le A B (k + j)
    have h2 := hA (k + j) (by omega)
    have h3 := hB (k + j)
    rw [← h, ← Nat.add_assoc]
    show (if _ then _ else _) = _
    rw [if_neg (by omega)]
theorem mt_ge {A B : Nat → Int} (hA : ∀ r, 0 ≤ A r) (hB : ∀ r, 0 ≤ B r) : ∀ i, 0 ≤ (mt A B i).2
  | 0 => by unfold mt; simp
  | i + 1 => by
    have := mt_ge hA hB i
    have h1 := hA i
    have h2 := hB i
    unfold mt
    split
    · simp only; omega
    · exact this

/-- What a climb asks of a hierarchy and a metric. -/
def TOld (k m : Nat) (L H : Nat → Int) (u : Nat) (U : Nat → Int) (v : Nat) (V : Nat → Int) : Prop := edgesB (k : Int) m L H = true ∧ u = m ∧ v = m ∧ InF m U ∧ InF m V
theorem told_k {k m : Nat} {L H : Nat → Int} {u : Nat} {U : Nat → Int} {v : Nat} {V : Nat → Int} (h : TOld k m L H u U v V) : 1 ≤ k ∧ k ≤ 24 := by
  have := h.1
  simp [edgesB, inB] at this
  omega
theorem told_e {k m : Nat} {L H : Nat → Int} {u : Nat} {U : Nat → Int} {v : Nat} {V : Nat → Int} (h : TOld k m L H u U v V) : ∀ i, i < m → 0 ≤ L i ∧ L i < H i ∧ H i < (k : Int) := fun i hi => by
  have := h.1
  simp [edgesB] at this
  exact edgeB_in (edB_at m this.2 i hi)
/-- The rank lies among the places. -/
def RIn (k : Nat) (r : Int) : Prop := 0 ≤ r ∧ r < (k : Int)
open Classical in
noncomputable def lenC (k m : Nat) (L H : Nat → Int) (u : Nat) (U : Nat → Int) (v : Nat) (V : Nat → Int) (r : Int) : Nat := if TOld k m L H u U v V ∧ RIn k r then k else 0
theorem lenC_yes {k m : Nat} {L H : Nat → Int} {u : Nat} {U : Nat → Int} {v : Nat} {V : Nat → Int} {r : Int} (h : TOld k m L H u U v V) (hr : RIn k r) : lenC k m L H u U v V r = k := by unfold lenC; rw [if_pos ⟨h, hr⟩]
theorem lenC_no {k m : Nat} {L H : Nat → Int} {u : Nat} {U : Nat → Int} {v : Nat} {V : Nat → Int} {r : Int} (h : ¬ (TOld k m L H u U v V ∧ RIn k r)) : lenC k m L H u U v V r = 0 := by unfold lenC; rw [if_neg h]
theorem lenC_le (k m : Nat) (L H : Nat → Int) (u : Nat) (U : Nat → Int) (v : Nat) (V : Nat → Int) (r : Int) : lenC k m L H u U v V r ≤ 24 := by
  by_cases h : TOld k m L H u U v V ∧ RIn k r
  · rw [lenC_yes h.1 h.2]; exact (told_k h.1).2
  · rw [lenC_no h]; omega
/-- The weights of a climb. -/
def wts (U V : Nat → Int) (b : Bool) : Nat → Int := if b then V else U
theorem wts_in {m : Nat} {U V : Nat → Int} (hU : InF m U) (hV : InF m V) (b : Bool) : InF m (wts U V b) := by cases b <;> assumption

open Classical in
/-- What Meeting and its search answer. -/
noncomputable def mtg (k m : Nat) (L H : Nat → Int) (u : Nat) (U : Nat → Int) (v : Nat) (V : Nat → Int) (a b : Int) : Int × Int :=
  if TOld k m L H u U v V ∧ RIn k a ∧ RIn k b then mt (cl L H U a.toNat m) (cl L H V b.toNat m) k else (-1, 1000000000000)
theorem mtg_yes {k m : Nat} {L H : Nat → Int} {u : Nat} {U : Nat → Int} {v : Nat} {V : Nat → Int} {a b : Int} (h : TOld k m L H u U v V) (ha : RIn k a) (hb : RIn k b) : mtg k m L H u U v V a b = mt (cl L H U a.toNat m) (cl L H V b.toNat m) k := by unfold mtg; rw [if_pos ⟨h, ha, hb⟩]
theorem mtg_no {k m : Nat} {L H : Nat → Int} {u : Nat} {U : Nat → Int} {v : Nat} {V : Nat → Int} {a b : Int} (h : ¬ (TOld k m L H u U v V ∧ RIn k a ∧ RIn k b)) : mtg k m L H u U v V a b = (-1, 1000000000000) := by unfold mtg; rw [if_neg h]

end Go.Proofs.YteibbknpcgcjjaiGreat

/-
  A climb is nought at its beginning and Far below it: the plain part.
-/
set_option linter.unusedVariables false
set_option linter.unusedSimpArgs false
namespace Go.Proofs.YteibbknpcgcjjaiGreat

theorem cl_low {k m : Nat} {L H W : Nat → Int} {s : Nat} (hE : ∀ i, i < m → 0 ≤ L i ∧ L i < H i ∧ H i < (k : Int)) (hW : InF m W) : ∀ i, i ≤ m → ∀ r, r < s → cl L H W s i r = 1000000000000
  | 0, _, r, hr => by unfold cl; rw [if_neg (by omega)]
  | i + 1, hi, r, hr => by
    have h1 := hE i (by omega)
    have h2 := hW i (by omega)
    unfold cl
    split
    · rename_i e
      rw [cl_low hE hW i (by omega) _ (by omega), cl_low hE hW i (by omega) _ (by omega)]
      omega
    · exact cl_low hE hW i (by omega) r hr
theorem cl_zero {k m : Nat} {L H W : Nat → Int} {s : Nat} (hE : ∀ i, i < m → 0 ≤ L i ∧ L i < H i ∧ H i < (k : Int)) (hW : InF m W) : ∀ i, i ≤ m → cl L H W s i s = 0
  | 0, _ => by unfold cl; rw [if_pos rfl]
  | i + 1, hi => by
    have h1 := hE i (by omega)
    have h2 := hW i (by omega)
    unfold cl
    split
    · rename_i e
      rw [← e, cl_zero hE hW i (by omega), cl_low hE hW i (by omega) _ (by omega)]
      omega
    · exact cl_zero hE hW i (by omega)
/-- What the law asks of a climb. -/
theorem climb_says {k m : Nat} {L H : Nat → Int} {u : Nat} {U : Nat → Int} {v : Nat} {V : Nat → Int} {r : Int} {b : Bool} {i : Nat} (hi : i < lenC k m L H u U v V r) :
    ((i : Int) < r → cl L H (wts U V b) r.toNat m i = 1000000000000) ∧ ((i : Int) = r → cl L H (wts U V b) r.toNat m i = 0) ∧ 0 ≤ cl L H (wts U V b) r.toNat m i ∧ cl L H (wts U V b) r.toNat m i ≤ 1000000000000 := by
  by_cases h : TOld k m L H u U v V ∧ RIn k r
  rotate_left
  · rw [lenC_no h] at hi; omega
  have hE := told_e h.1
  have hW : InF m (wts U V b) := wts_in h.1.2.2.2.1 h.1.2.2.2.2 b
  have hr := h.2
  unfold RIn at hr
  refine ⟨fun hl => cl_low hE hW m (Nat.le_refl _) i (by omega), fun he => ?_, cl_in r.toNat hW m (Nat.le_refl _) i⟩
  have : i = r.toNat := by omega
  rw [this]
  exact cl_zero hE hW m (Nat.le_refl _)

end Go.Proofs.YteibbknpcgcjjaiGreat

/-
  The shortest way, plainly: climbs over the edges of a right metric.
-/
set_option linter.unusedVariables false
set_option linter.unusedSimpArgs false
namespace Go.Proofs.YteibbknpcgcjjaiGreat

section
variable {k m : Nat} {L H W : Nat → Int}
theorem ed_le {p : Int} (he : edB p L H m = true) {i j : Nat} (hij : i ≤ j) (hj : j < m) : L i ≤ L j := by
  by_cases e : i = j
  · subst e; exact Int.le_refl _
  · have := ed_rise m he j hj i (by omega)
    omega
theorem cl_down {s : Nat} (i : Nat) (r : Nat) : cl L H W s (i + 1) r ≤ cl L H W s i r := by
  rw [cl.eq_2]
  simp only
  split
  · rename_i e
    rw [← e]
    omega
  · exact Int.le_refl _
theorem cl_mono {s i r : Nat} : ∀ d, cl L H W s (i + d) r ≤ cl L H W s i r
  | 0 => Int.le_refl _
  | d + 1 => Int.le_trans (cl_down (i + d) r) (cl_mono d)
theorem cl_stay {s i r : Nat} (he : edB (k : Int) L H m = true) (hE : ∀ i, i < m → 0 ≤ L i ∧ L i < H i ∧ H i < (k : Int)) (hr : (r : Int) ≤ L i) : ∀ d, i + d ≤ m → cl L H W s (i + d) r = cl L H W s i r
  | 0, _ => rfl
  | d + 1, hd => by
    have h1 := cl_stay (s := s) he hE hr d (by omega)
    have h2 := ed_le he (show i ≤ i + d by omega) (by omega)
    have h3 := hE (i + d) (by omega)
    show cl L H W s ((i + d) + 1) r = _
    rw [cl.eq_2]
    simp only
    rw [if_neg (by omega), h1]
/-- No edge makes a climb shorter. -/
theorem cl_fix {s : Nat} (he : edB (k : Int) L H m = true) (hE : ∀ i, i < m → 0 ≤ L i ∧ L i < H i ∧ H i < (k : Int)) {i : Nat} (hi : i < m) : cl L H W s m (H i).toNat ≤ cl L H W s m (L i).toNat + W i := by
  have h1 : cl L H W s m (L i).toNat = cl L H W s i (L i).toNat := by
    have := cl_stay (s := s) (W := W) he hE (i := i) (r := (L i).toNat) (by have := hE i hi; omega) (m - i) (by omega)
    rwa [show i + (m - i) = m by omega] at this
  have h2 : cl L H W s m (H i).toNat ≤ cl L H W s (i + 1) (H i).toNat := by
    have := cl_mono (L := L) (H := H) (W := W) (s := s) (i := i + 1) (r := (H i).toNat) (m - (i + 1))
    rwa [show i + 1 + (m - (i + 1)) = m by omega] at this
  have h3 : cl L H W s (i + 1) (H i).toNat ≤ cl L H W s i (L i).toNat + W i := by
    rw [cl.eq_2]
    simp only
    rw [if_pos trivial]
    omega
  omega
/-- A climb to a rank and on from there is none shorter than the climb. -/
theorem cl_then {s t : Nat} (he : edB (k : Int) L H m = true) (hE : ∀ i, i < m → 0 ≤ L i ∧ L i < H i ∧ H i < (k : Int)) (hW : InF m W) : ∀ i, i ≤ m → ∀ r, cl L H W s m r ≤ cl L H W s m t + cl L H W t i r
  | 0, _, r => by
    have h1 := cl_in (L := L) (H := H) s hW m (Nat.le_refl _) r
    have h2 := cl_in (L := L) (H := H) s hW m (Nat.le_refl _) t
    rw [cl.eq_1 L H W t]
    simp only
    split
    · rename_i e; subst e; omega
    · omega
  | i + 1, hi, r => by
    have ih := cl_then he hE hW (s := s) (t := t) i (by omega)
    have h1 := cl_in (L := L) (H := H) s hW m (Nat.le_refl _) r
    have h2 := cl_in (L := L) (H := H) s hW m (Nat.le_refl _) t
    rw [cl.eq_2 L H W t]
    simp only
    split
    · rename_i e
      have a := ih (H i).toNat
      have b := ih (L i).toNat
      have c := cl_fix (s := s) (W := W) he hE (i := i) (by omega)
      subst e
      omega
    · exact ih r
/-- The first edge of a climb. -/
theorem cl_first {x : Nat} (he : edB (k : Int) L H m = true) (hE : ∀ i, i < m → 0 ≤ L i ∧ L i < H i ∧ H i < (k : Int)) (hW : InF m W) : ∀ i, i ≤ m → ∀ r, r ≠ x → cl L H W x i r < 1000000000000 → ∃ j, j < m ∧ (L j).toNat = x ∧ W j + cl L H W (H j).toNat m r ≤ cl L H W x i r
  | 0, _, r, hr, h => by
    rw [cl.eq_1 L H W x] at h
    simp only at h
    rw [if_neg hr] at h
    omega
  | i + 1, hi, r, hr, h => by
    have ih := cl_first he hE hW (x := x) i (by omega)
    rw [cl.eq_2 L H W x] at h ⊢
    simp only at h ⊢
    split
    · rename_i e
      rw [if_pos e] at h
      subst e
      by_cases hc : cl L H W x i (H i).toNat ≤ min 1000000000000 (cl L H W x i (L i).toNat + W i)
      · obtain ⟨j, hj, e1, e2⟩ := ih (H i).toNat hr (by omega)
        exact ⟨j, hj, e1, by omega⟩
      · by_cases hx : (L i).toNat = x
        · have z := cl_zero (s := (H i).toNat) hE hW m (Nat.le_refl _)
          have y := cl_in (L := L) (H := H) x hW i (by omega) (L i).toNat
          exact ⟨i, by omega, hx, by omega⟩
        · have hw := hW i (by omega)
          obtain ⟨j, hj, e1, e2⟩ := ih (L i).toNat hx (by omega)
          have c := cl_fix (s := (H j).toNat) (W := W) he hE (i := i) (by omega)
          exact ⟨j, hj, e1, by omega⟩
    · rename_i e
      rw [if_neg e] at h
      exact ih r hr h
end

/-- The least sum of two climbs. -/
theorem mt_leS {A B : Nat → Int} : ∀ k, (mt A B k).2 ≤ 1000000000000 ∧ ∀ r, r < k → (mt A B k).2 ≤ A r + B r
  | 0 => ⟨by simp [mt], fun r hr => by omega⟩
  | k + 1 => by
    obtain ⟨h1, h2⟩ := mt_leS (A := A) (B := B) k
    unfold mt
    split
    · rename_i h
      refine ⟨by simp only; omega, fun r hr => ?_⟩
      by_cases e : r = k
      · subst e; simp only; omega
      · have := h2 r (by omega); simp only; omega
    · rename_i h
      refine ⟨h1, fun r hr => ?_⟩
      by_cases e : r = k
      · subst e; omega
      · exact h2 r (by omega)
theorem mt_atS {A B : Nat → Int} : ∀ k, (mt A B k).2 < 1000000000000 → ∃ r, r < k ∧ (mt A B k).2 = A r + B r
  | 0, h => by simp [mt] at h
  | k + 1, h => by
    unfold mt at h ⊢
    split
    · rename_i hl
      rw [if_pos hl] at h
      simp only at h ⊢
      exact ⟨k, by omega, by omega⟩
    · rename_i hl
      rw [if_neg hl] at h
      obtain ⟨r, hr, e⟩ := mt_atS k h
      exact ⟨r, by omega, e⟩

section
variable {k m : Nat} {L H U V : Nat → Int}
/-- Down along an edge. -/
theorem way_down {a e r : Nat} (he : edB (k : Int) L H m = true) (hE : ∀ i, i < m → 0 ≤ L i ∧ L i < H i ∧ H i < (k : Int)) (hV : InF m V) (h : e < m) : cl L H V (L e).toNat m r ≤ V e + cl L H V (H e).toNat m r := by
  have h1 := cl_then (s := (L e).toNat) (t := (H e).toNat) he hE hV m (Nat.le_refl _) r
  have h2 := cl_fix (s := (L e).toNat) (W := V) he hE h
  have h3 := cl_zero (s := (L e).toNat) hE hV m (Nat.le_refl _)
  omega
/-- Up along an edge: by induction from the top down. -/
theorem way_up {a : Nat} (hC : Chd (k : Int) m L H) (he : edB (k : Int) L H m = true) (hE : ∀ i, i < m → 0 ≤ L i ∧ L i < H i ∧ H i < (k : Int)) (hU : InF m U) (hV : InF m V) (hT : ∀ t, TOk m L H t → okT U V t) :
    ∀ d e r, e < m → r < k → k - (L e).toNat ≤ d → (mt (cl L H U a m) (cl L H V (H e).toNat m) k).2 ≤ cl L H U a m r + cl L H V (L e).toNat m r + U e
  | 0, e, r, h, hr, hd => by have := hE e h; omega
  | d + 1, e, r, h, hr, hd => by
    have he1 := hE e h
    obtain ⟨f1, f2⟩ := mt_leS (A := cl L H U a m) (B := cl L H V (H e).toNat m) k
    have u1 := hU e h
    have u2 := cl_in (L := L) (H := H) a hU m (Nat.le_refl _) r
    have v2 := cl_in (L := L) (H := H) (L e).toNat hV m (Nat.le_refl _) r
    by_cases hrx : r = (L e).toNat
    · have a1 := cl_fix (s := a) (W := U) he hE h
      have a2 := f2 (H e).toNat (by omega)
      have a3 := cl_zero (s := (H e).toNat) hE hV m (Nat.le_refl _)
      rw [hrx]
      rw [hrx] at v2
      omega
    by_cases hf : cl L H V (L e).toNat m r < 1000000000000
    rotate_left
    · omega
    obtain ⟨j, hj, e1, e2⟩ := cl_first he hE hV m (Nat.le_refl _) r hrx hf
    have hj1 := hE j hj
    have hje : L j = L e := by omega
    have w1 := hV j hj
    by_cases hxy : H j = H e
    · have a1 := f2 r hr
      rw [hxy] at e2
      omega
    by_cases hlt : H j < H e
    · have hje2 : j < e := by
        rcases Nat.lt_trichotomy j e with q | q | q
        · exact q
        · subst q; omega
        · have := ed_rise m he j hj e q; omega
      have hk := tok_of he hC.2 hje2 h hje.symm
      have ht := (hT _ hk).1
      obtain ⟨_, _, q3, _, q5, q6, q7⟩ := hk
      simp only at q3 q6 q7
      unfold upT at ht
      simp only at ht
      have ih := way_up (a := a) hC he hE hU hV hT d _ r q3 hr (by rw [q6]; omega)
      rw [q6, q7] at ih
      omega
    · have hje2 : e < j := by
        rcases Nat.lt_trichotomy j e with q | q | q
        · have := ed_rise m he e h j q; omega
        · subst q; omega
        · exact q
      have hk := tok_of he hC.2 hje2 hj hje
      have ht := (hT _ hk).2
      obtain ⟨_, _, q3, _, q5, q6, q7⟩ := hk
      simp only at q3 q6 q7
      unfold dnT at ht
      simp only at ht
      have a1 := way_down (a := a) (r := r) he hE hV q3
      rw [q6, q7] at a1
      have a2 := f2 r hr
      omega
end

end Go.Proofs.YteibbknpcgcjjaiGreat

/-
  Plain: the way of an edge, as the document unpacks it and as the program's stack does.
-/
set_option linter.unusedVariables false
set_option linter.unusedSimpArgs false
namespace Go.Proofs.YteibbknpcgcjjaiGreat

/-- What a way is unpacked from: which ranks have an edge, the weights down and up along it, the places, the arcs' weights. -/
structure Net where
  hs : Nat → Nat → Bool
  D : Nat → Nat → Int
  U : Nat → Nat → Int
  O : Nat → Int
  lw : Int → Int → Int
/-- The ranks that a step leads from and to. -/
def frR (lo hi : Nat) (up : Bool) : Nat := if up = true then lo else hi
def toR (lo hi : Nat) (up : Bool) : Nat := if up = true then hi else lo
def Net.wt (x : Net) (lo hi : Nat) (up : Bool) : Int := if up = true then x.U lo hi else x.D lo hi
def Net.isA (x : Net) (lo hi : Nat) (up : Bool) : Bool := decide (x.lw (x.O (frR lo hi up)) (x.O (toR lo hi up)) = x.wt lo hi up)
def addF (a b : Int) : Int := min 1000000000000 (a + b)
def Net.fit (x : Net) (lo hi : Nat) (up : Bool) (w : Nat) : Bool := (x.hs w (frR lo hi up) && x.hs w (toR lo hi up)) && decide (addF (x.D w (frR lo hi up)) (x.U w (toR lo hi up)) = x.wt lo hi up)
/-- The first rank below over which a step is as long as it is. -/
def Net.fst (x : Net) (lo hi : Nat) (up : Bool) : Option Nat := (List.range lo).find? (x.fit lo hi up)
theorem Net.fst_lt {x : Net} {lo hi w : Nat} {up : Bool} (h : x.fst lo hi up = some w) : w < lo := by
  have := List.mem_of_find?_eq_some h
  simpa using this
theorem Net.fst_fit {x : Net} {lo hi w : Nat} {up : Bool} (h : x.fst lo hi up = some w) : x.fit lo hi up w = true := List.find?_some h
/-- The halves of a step: none where it is an arc of its own, or has none. -/
def Net.half (x : Net) (lo hi : Nat) (up : Bool) : Option Nat := if x.isA lo hi up = true then none else x.fst lo hi up
theorem Net.half_lt {x : Net} {lo hi w : Nat} {up : Bool} (h : x.half lo hi up = some w) : w < lo := by
  unfold Net.half at h
  split at h
  · cases h
  · exact x.fst_lt h
theorem Net.half_fit {x : Net} {lo hi w : Nat} {up : Bool} (h : x.half lo hi up = some w) : x.fit lo hi up w = true := by
  unfold Net.half at h
  split at h
  · cases h
  · exact x.fst_fit h
/-- The places of a step's way, behind its first. -/
def Net.wy (x : Net) (lo hi : Nat) (up : Bool) : List Int :=
  match h : x.half lo hi up with
  | some w => x.wy w (frR lo hi up) false ++ x.wy w (toR lo hi up) true
  | none => [x.O (toR lo hi up)]
termination_by lo
decreasing_by
  · exact x.half_lt h
  · exact x.half_lt h
theorem Net.wy_some {x : Net} {lo hi w : Nat} {up : Bool} (h : x.half lo hi up = some w) : x.wy lo hi up = x.wy w (frR lo hi up) false ++ x.wy w (toR lo hi up) true := by
  rw [Net.wy]
  split
  · next w' h' => rw [h] at h'; cases h'; rfl
  · next h' => rw [h] at h'; cases h'
theorem Net.wy_none {x : Net} {lo hi : Nat} {up : Bool} (h : x.half lo hi up = none) : x.wy lo hi up = [x.O (toR lo hi up)] := by
  rw [Net.wy]
  split
  · next w' h' => rw [h] at h'; cases h'
  · rfl
theorem Net.wy_len (x : Net) : ∀ (lo hi : Nat) (up : Bool), 1 ≤ (x.wy lo hi up).length ∧ (x.wy lo hi up).length ≤ 2 ^ lo := by
  intro lo
  induction lo using Nat.strongRecOn with
  | ind lo ih =>
    intro hi up
    cases h : x.half lo hi up with
    | none =>
      rw [Net.wy_none h]
      exact ⟨by simp, by simpa using Nat.one_le_two_pow⟩
    | some w =>
      rw [Net.wy_some h]
      have hw := x.half_lt h
      have h1 := ih w hw (frR lo hi up) false
      have h2 := ih w hw (toR lo hi up) true
      have h3 : 2 ^ (w + 1) ≤ 2 ^ lo := Nat.pow_le_pow_right (by omega) (by omega)
      rw [Nat.pow_succ] at h3
      simp only [List.length_append]
      omega
/-- A stack of steps, the last on top: the places that are still to come, and how much is still to do. -/
def Net.rest (x : Net) : List (Nat × Nat × Bool) → List Int
  | [] => []
  | s :: st => x.wy s.1 s.2.1 s.2.2 ++ x.rest st
def Net.todo (x : Net) : List (Nat × Nat × Bool) → Nat
  | [] => 0
  | s :: st => (2 * (x.wy s.1 s.2.1 s.2.2).length - 1) + x.todo st
theorem Net.rest_some {x : Net} {lo hi w : Nat} {up : Bool} {st : List (Nat × Nat × Bool)} (h : x.half lo hi up = some w) : x.rest ((lo, hi, up) :: st) = x.rest ((w, frR lo hi up, false) :: (w, toR lo hi up, true) :: st) := by
  simp [Net.rest, Net.wy_some h]
theorem Net.rest_none {x : Net} {lo hi : Nat} {up : Bool} {st : List (Nat × Nat × Bool)} (h : x.half lo hi up = none) : x.rest ((lo, hi, up) :: st) = x.O (toR lo hi up) :: x.rest st := by
  simp [Net.rest, Net.wy_none h]
theorem Net.todo_some {x : Net} {lo hi w : Nat} {up : Bool} {st : List (Nat × Nat × Bool)} (h : x.half lo hi up = some w) : x.todo ((w, frR lo hi up, false) :: (w, toR lo hi up, true) :: st) < x.todo ((lo, hi, up) :: st) := by
  have h1 := (x.wy_len w (frR lo hi up) false).1
  have h2 := (x.wy_len w (toR lo hi up) true).1
  simp only [Net.todo, Net.wy_some h, List.length_append]
  omega
theorem Net.todo_none {x : Net} {lo hi : Nat} {up : Bool} {st : List (Nat × Nat × Bool)} (h : x.half lo hi up = none) : x.todo st < x.todo ((lo, hi, up) :: st) := by
  simp only [Net.todo, Net.wy_none h, List.length_singleton]
  omega
/-- Where a step is less than far, so are its halves. -/
theorem addF_lt {a b c : Int} (h : addF a b = c) (hc : c < 1000000000000) (ha : 0 ≤ a) (hb : 0 ≤ b) : a < 1000000000000 ∧ b < 1000000000000 := by
  unfold addF at h
  omega
/-- Where the search of a first rank stands. -/
theorem Net.fst_step {x : Net} {lo hi : Nat} {up : Bool} {w : Nat} (hw : w < lo) (hno : ∀ v, v < w → x.fit lo hi up v = false) (hy : x.fit lo hi up w = true) : x.fst lo hi up = some w := by
  unfold Net.fst
  rw [List.find?_eq_some_iff_getElem]
  refine ⟨hy, w, by simpa using hw, by simp, fun j hj => ?_⟩
  simp [hno j hj]
theorem Net.fst_end {x : Net} {lo hi : Nat} {up : Bool} (hno : ∀ v, v < lo → x.fit lo hi up v = false) : x.fst lo hi up = none := by
  unfold Net.fst
  rw [List.find?_eq_none]
  intro v hv
  simp only [List.mem_range] at hv
  simp [hno v hv]

end Go.Proofs.YteibbknpcgcjjaiGreat

/-
  Lists of numbers of the call's own that grow by one: the law for the walk.
-/
set_option linter.unusedVariables false
set_option linter.unusedSimpArgs false
namespace Go.Proofs.YteibbknpcgcjjaiGreat
open Go.RowKit

def icells (f : Nat → Int) (n : Nat) : List Value := (List.range n).map fun j => .int .i64 (f j)
theorem icells_at {f : Nat → Int} {n j : Nat} (hj : j < n) : (icells f n)[j]? = some (.int .i64 (f j)) := by
  rw [icells, List.getElem?_map, List.getElem?_range hj]; rfl
theorem icells_len (f : Nat → Int) (n : Nat) : (icells f n).length = n := by simp [icells]
theorem icells_congr {f g : Nat → Int} {n : Nat} (h : ∀ j, j < n → f j = g j) : icells f n = icells g n := by
  apply List.ext_getElem?
  intro j
  by_cases hj : j < n
  · rw [icells_at hj, icells_at hj, h j hj]
  · rw [List.getElem?_eq_none (by rw [icells_len]; omega), List.getElem?_eq_none (by rw [icells_len]; omega)]
theorem icells_put {f g : Nat → Int} {n : Nat} (v : Int) (h1 : ∀ j, j < n → f j = g j) (h2 : g n = v) : icells f n ++ [.int .i64 v] = icells g (n + 1) := by
  rw [icells_congr h1]
  simp [icells, List.range_succ, h2]

/-- n numbers in a block of the call's own, from block base on, with room for cap of them. -/
def IOwn (w : World) (base g cap n : Nat) (f : Nat → Int) : Prop := w.ownsRow base 2 1 (.slice (some ⟨g, 0, none⟩) n cap) n (icells f n)
theorem IOwn.has {w : World} {base g cap n : Nat} {f : Nat → Int} (h : IOwn w base g cap n f) : IHas w g n f := by
  obtain ⟨hl, h0 | ⟨g', cap', cur, hv, hb, hh, h1, h2, h3, h4⟩⟩ := h
  · simp at h0
  · simp at hv
    obtain ⟨rfl, rfl⟩ := hv
    refine ⟨cur, hh, by omega, fun j hj => ?_⟩
    have : (cur.toList.take (n * 1))[j]? = (icells f n)[j]? := by rw [h4]
    rw [List.getElem?_take_of_lt (by omega), icells_at hj] at this
    simpa using this
theorem IOwn.base {w : World} {base g cap n : Nat} {f : Nat → Int} (h : IOwn w base g cap n f) : base ≤ g := (World.ownsRow.lt h g rfl).1
theorem IOwn.congr {w : World} {base g cap n : Nat} {f f' : Nat → Int} (h : IOwn w base g cap n f) (e : ∀ j, j < n → f j = f' j) : IOwn w base g cap n f' := by
  unfold IOwn at h ⊢
  rw [← icells_congr e]; exact h
theorem IOwn.below {w w' : World} {base g cap n B : Nat} {f : Nat → Int} (h : IOwn w base g cap n f) (hb : Below B w w') (hB : g < B) : IOwn w' base g cap n f := by
  refine ⟨h.1, ?_⟩
  rcases h.2 with hn | ⟨g', cap', cur, hv, hb', hgg, rest⟩
  · exact .inl hn
  · simp at hv
    obtain ⟨rfl, rfl⟩ := hv
    exact .inr ⟨g, cap, cur, rfl, hb', (hb.block g hB).trans hgg, rest⟩
theorem IOwn.lt {w : World} {base g cap n : Nat} {f : Nat → Int} (h : IOwn w base g cap n f) : g < w.heap.size := (World.ownsRow.lt h g rfl).2
theorem IOwn.grown {w w' : World} {base g cap n : Nat} {f : Nat → Int} {b : Nat} (h : IOwn w base g cap n f) (hg : w.grownBy w' (some b)) (hne : g ≠ b) : IOwn w' base g cap n f := by
  refine ⟨h.1, ?_⟩
  rcases h.2 with hn | ⟨g', cap', cur, hv, hb', hgg, rest⟩
  · exact .inl hn
  · simp at hv
    obtain ⟨rfl, rfl⟩ := hv
    exact .inr ⟨g, cap, cur, rfl, hb', (hg.block g h.lt (by simp; exact hne)).trans hgg, rest⟩

theorem IOwn.room {w : World} {base g cap n : Nat} {f : Nat → Int} (h : IOwn w base g cap n f) : n ≤ cap := by
  obtain ⟨hl, h0 | ⟨g', cap', cur, hv, hb, hh, h1, h2, h3, h4⟩⟩ := h
  · simp at h0
  · simp at hv
    omega
/-- A new empty list. -/
theorem IOwn.empty (w : World) {base : Nat} (hb : base ≤ w.heap.size) (f : Nat → Int) : IOwn (w.alloc (.cells #[] 2)) base w.heap.size 0 0 f := by
  have := World.ownsRow_lit (base := base) (e := 2) (size := 1) w #[] 0 hb (by simp) (by simp)
  simpa [IOwn, icells] using this

theorem wpList_append_int {w : World} {ops : Array Oper} {rest : List Oper} {o : Oper} {a : Act} {Q : Exit → Act → World → Prop} (hgd : o.guard = none) (s x : Operand)
    (ho : o.op = .call { callee := .builtin .append, args := #[s, x], argTypes := #[25, 25] }) (base g cap n : Nat) (f : Nat → Int) (hs : a.eval s = .slice (some ⟨g, 0, none⟩) n cap)
    (hown : IOwn w base g cap n f) (ad : Addr) (c : Nat) (v : Int) (hx : a.eval x = .slice (some ad) 1 c) (h0 : w.cell? (ad.add 0) = some (.int .i64 v)) (hn : n ≤ 1000000000) (hbase : base ≤ w.heap.size)
    (h : ∀ g' cap' w', (∀ f', (∀ j, j < n → f' j = f j) → f' n = v → IOwn w' base g' cap' (n + 1) f') → w.grownBy w' (some g) → (g' = g ∨ g' = w.heap.size) → wpList Tryz.prog ops Q rest (a.put o.dst (.slice (some ⟨g', 0, none⟩) (n + 1) cap')) w') : wpList Tryz.prog ops Q (o :: rest) a w := by
  obtain ⟨i, hi, hz0, hz1, hz2⟩ := info_parts Tryz.infoInt
  refine wpList_append_lies w hgd s x 25 ho base 2 i _ 1 8 Tryz.underlying25 hi hz0 hz1 hz2 rfl (by omega) _ n (icells f n) hs hown ad 1 c [.int .i64 v] hx rfl ?_ ?_ (by omega) (by unfold maxLen; omega) (by omega) hbase w.heap.size rfl ?_
  · intro j u hu
    match j, hu with
    | 0, hu => simp at hu; subst hu; exact h0
    | j + 1, hu => simp at hu
  · intro u hu
    simp at hu
    subst hu; rfl
  · intro g' cap' w' hown' hgrow hat hlt
    refine h g' cap' w' (fun f' e1 e2 => ?_) hgrow ?_
    · rw [icells_put v (fun j hj => (e1 j hj).symm) e2] at hown'
      exact hown'
    · rcases hat with e | e
      · simp [Value.ownBlock] at e; exact Or.inl e.symm
      · exact Or.inr e

end Go.Proofs.YteibbknpcgcjjaiGreat

/-
  A list of numbers of the call's own, or none yet, that grows by one.
-/
set_option linter.unusedVariables false
set_option linter.unusedSimpArgs false
namespace Go.Proofs.YteibbknpcgcjjaiGreat
open Go.RowKit

/-- n numbers behind a slice of the call's own, or a slice that is nil. -/
def OwnE (w : World) (base : Nat) (go : Option Addr) (n cap : Nat) (f : Nat → Int) : Prop := w.ownsRow base 2 1 (.slice go n cap) n (icells f n)
theorem OwnE.nil (w : World) (base : Nat) (f : Nat → Int) : OwnE w base none 0 0 f := ⟨by simp [icells], .inl ⟨rfl, rfl⟩⟩
theorem OwnE.at {w : World} {base n cap x : Nat} {go : Option Addr} {f : Nat → Int} (h : OwnE w base go n cap f) (e : (Value.slice go n cap).ownBlock = some x) : base ≤ x ∧ x < w.heap.size := World.ownsRow.lt h x e
theorem OwnE.of_block {w w' : World} {base n cap : Nat} {go : Option Addr} {f : Nat → Int} (h : OwnE w base go n cap f) (e : ∀ x, (Value.slice go n cap).ownBlock = some x → w'.heap[x]? = w.heap[x]?) : OwnE w' base go n cap f := by
  refine ⟨h.1, ?_⟩
  rcases h.2 with hn | ⟨g', cap', cur, hv, hb', hgg, rest⟩
  · exact .inl hn
  · have e2 := e g' (by rw [hv]; rfl)
    exact .inr ⟨g', cap', cur, hv, hb', e2.trans hgg, rest⟩
theorem OwnE.next {w w' : World} {base n cap : Nat} {go : Option Addr} {f : Nat → Int} (h : OwnE w base go n cap f) (hb : Below w.heap.size w w') : OwnE w' base go n cap f := h.of_block (fun x e => hb.block x (h.at e).2)
theorem OwnE.grown {w w' : World} {base n cap : Nat} {go : Option Addr} {f : Nat → Int} {row : Option Nat} (h : OwnE w base go n cap f) (hg : w.grownBy w' row) (hne : ∀ x, (Value.slice go n cap).ownBlock = some x → row ≠ some x) : OwnE w' base go n cap f := h.of_block (fun x e => hg.block x (h.at e).2 (fun q => hne x e q.symm))
theorem OwnE.has {w : World} {base n cap : Nat} {go : Option Addr} {f : Nat → Int} (h : OwnE w base go n cap f) (hn : 0 < n) : ∃ g, go = some ⟨g, 0, none⟩ ∧ base ≤ g ∧ IHas w g n f := by
  have h' := h
  obtain ⟨hl, h0 | ⟨g', cap', cur, hv, hb, hh, h1, h2, h3, h4⟩⟩ := h
  · omega
  · simp at hv
    obtain ⟨rfl, rfl⟩ := hv
    refine ⟨g', rfl, hb, cur, hh, by omega, fun j hj => ?_⟩
    have : (cur.toList.take (n * 1))[j]? = (icells f n)[j]? := by rw [h4]
    rw [List.getElem?_take_of_lt (by omega), icells_at hj] at this
    simpa using this
/-- The room of a list of numbers is what its slice says. -/
def Cap (w : World) (b cap : Nat) : Prop := ∃ cur : Array Value, w.heap[b]? = some (.cells cur 2 (0, 0)) ∧ cap ≤ maxLen ∧ cur.size = cap
theorem Cap.of_block {w w' : World} {b cap : Nat} (h : Cap w b cap) (e : w'.heap[b]? = w.heap[b]?) : Cap w' b cap := by
  obtain ⟨c, h1, h2, h3⟩ := h
  exact ⟨c, e.trans h1, h2, h3⟩
theorem Cap.lt {w : World} {b cap : Nat} (h : Cap w b cap) : b < w.heap.size := by
  obtain ⟨c, h1, h2, h3⟩ := h
  exact (Array.getElem?_eq_some_iff.1 h1).1
theorem Cap.set {w : World} {b cap : Nat} (h : Cap w b cap) (j : Nat) (v : Value) : Cap (w.setCell ⟨b, j, none⟩ v) b cap := by
  obtain ⟨c, h1, h2, h3⟩ := h
  exact ⟨c.setIfInBounds j v, by simp [World.setCell, Array.getElem?_modify, h1], h2, by simpa using h3⟩
theorem Cap.own {w : World} {b n cap base : Nat} {f : Nat → Int} (h : Cap w b cap) (hi : IHas w b n f) (hb : base ≤ b) : OwnE w base (some ⟨b, 0, none⟩) n cap f := by
  obtain ⟨c, h1, h2, h3⟩ := h
  obtain ⟨d, g1, g2, g3⟩ := hi
  rw [h1] at g1
  simp at g1
  subst g1
  refine ⟨by simp [icells], .inr ⟨b, cap, c, rfl, hb, h1, by omega, h2, by omega, ?_⟩⟩
  apply List.ext_getElem?
  intro j
  by_cases hj : j < n
  · rw [List.getElem?_take_of_lt (by omega), icells_at hj]
    simpa using g3 j hj
  · rw [List.getElem?_eq_none (by simp; omega), List.getElem?_eq_none (by simp [icells]; omega)]
theorem OwnE.capAt {w : World} {base n cap g : Nat} {go : Option Addr} {f : Nat → Int} (h : OwnE w base go n cap f) (e : go = some ⟨g, 0, none⟩) : Cap w g cap := by
  obtain ⟨hl, h0 | ⟨g', cap', cur, hv, hb, hh, h1, h2, h3, h4⟩⟩ := h
  · rw [e] at h0; simp at h0
  · rw [e] at hv
    simp at hv
    obtain ⟨rfl, rfl⟩ := hv
    exact ⟨cur, hh, h2, by omega⟩
theorem OwnE.room {w : World} {base n cap g : Nat} {go : Option Addr} {f : Nat → Int} (h : OwnE w base go n cap f) (e : go = some ⟨g, 0, none⟩) : n ≤ cap := by
  obtain ⟨hl, h0 | ⟨g', cap', cur, hv, hb, hh, h1, h2, h3, h4⟩⟩ := h
  · rw [e] at h0; simp at h0
  · rw [e] at hv
    simp at hv
    obtain ⟨rfl, rfl⟩ := hv
    exact h1
theorem own_blk {ao : Option Addr} {n cap x : Nat} (e : (Value.slice ao n cap).ownBlock = some x) : ∃ a, ao = some a ∧ a.block = x := by
  cases ao with
  | none => simp [Value.ownBlock] at e
  | some a => exact ⟨a, rfl, by simpa [Value.ownBlock] using e⟩
theorem wp_append_own {o : Oper} {a : Act} {w : World} {K : Act → World → Prop} {Q : Exit → Act → World → Prop} (s x : Operand)
    (ho : o.op = .call { callee := .builtin .append, args := #[s, x], argTypes := #[25, 25] }) (base k gc : Nat) (go : Option Addr) (f : Nat → Int) (hs : a.eval s = .slice go k gc) (hown : OwnE w base go k gc f) (B : Nat) (hx : a.eval x = .slice (some ⟨B, 0, none⟩) 1 1)
    (hB : w.cell? ⟨B, 0, none⟩ = some (.int .i64 (f k))) (hk : k ≤ 100000000) (hbase : base ≤ w.heap.size)
    (h : ∀ g' gc' w', OwnE w' base (some ⟨g', 0, none⟩) (k + 1) gc' f → w.grownBy w' (Value.slice go k gc).ownBlock → ((Value.slice go k gc).ownBlock = some g' ∨ g' = w.heap.size) → K (a.put o.dst (.slice (some ⟨g', 0, none⟩) (k + 1) gc')) w') : o.wp Tryz.prog a w K Q := by
  obtain ⟨i0, hi0, hz0, hz1, hz2⟩ := info_parts Tryz.infoInt
  refine wp_append_lies w s x 25 ho base 2 i0 _ 1 8 Tryz.underlying25 hi0 hz0 hz1 hz2 rfl (by omega) _ k (icells f k) hs hown ⟨B, 0, none⟩ 1 1 [.int .i64 (f k)] hx rfl ?_ ?_ (by omega) (by unfold maxLen; omega) (by omega) hbase w.heap.size rfl ?_
  · intro j u hu
    match j, hu with
    | 0, hu => simp at hu; subst hu; exact hB
    | j + 1, hu => simp at hu
  · intro u hu
    simp at hu
    subst hu; rfl
  · intro g' gc' w' hown' hgrow hat _
    rw [icells_put (f k) (fun _ _ => rfl) rfl] at hown'
    exact h g' gc' w' hown' hgrow hat
theorem step_append_own {ops : Array Oper} {o : Oper} {a : Act} {w : World} {K : Act → World → Prop} {Q : Exit → Act → World → Prop} {E : Prop} (hgd : o.guard = none) (s x : Operand)
    (ho : o.op = .call { callee := .builtin .append, args := #[s, x], argTypes := #[25, 25] }) (base k gc : Nat) (go : Option Addr) (f : Nat → Int) (hs : a.eval s = .slice go k gc) (hown : OwnE w base go k gc f) (B : Nat) (hx : a.eval x = .slice (some ⟨B, 0, none⟩) 1 1)
    (hB : w.cell? ⟨B, 0, none⟩ = some (.int .i64 (f k))) (hk : k ≤ 100000000) (hbase : base ≤ w.heap.size)
    (h : ∀ g' gc' w', OwnE w' base (some ⟨g', 0, none⟩) (k + 1) gc' f → w.grownBy w' (Value.slice go k gc).ownBlock → ((Value.slice go k gc).ownBlock = some g' ∨ g' = w.heap.size) → K (a.put o.dst (.slice (some ⟨g', 0, none⟩) (k + 1) gc')) w') :
    if Region.wanted o (yielded ops a.tmps) = true then Oper.wp Tryz.prog o a w K Q else E := by
  have hw : Region.wanted o (yielded ops a.tmps) = true := by simp [Region.wanted, hgd]
  rw [if_pos hw]
  exact wp_append_own s x ho base k gc go f hs hown B hx hB hk hbase h

end Go.Proofs.YteibbknpcgcjjaiGreat

/-
  A list of numbers of the call's own, told as a list, that grows by many.
-/
set_option linter.unusedVariables false
set_option linter.unusedSimpArgs false
namespace Go.Proofs.YteibbknpcgcjjaiGreat
open Go.RowKit Go.Deep

def lcells (l : List Int) : List Value := l.map (.int .i64 ·)
/-- A list of numbers behind a slice of the call's own. -/
def LOwn (w : World) (base : Nat) (go : Option Addr) (cap : Nat) (l : List Int) : Prop := w.ownsRow base 2 1 (.slice go l.length cap) l.length (lcells l)
theorem lcells_icells (l : List Int) : lcells l = icells (fun j => l.getD j 0) l.length := by
  apply List.ext_getElem?
  intro j
  by_cases hj : j < l.length
  · rw [icells_at hj]
    simp [lcells, hj]
  · rw [List.getElem?_eq_none (by simp [lcells]; omega), List.getElem?_eq_none (by simp [icells]; omega)]
theorem LOwn.ownE {w : World} {base cap : Nat} {go : Option Addr} {l : List Int} (h : LOwn w base go cap l) : OwnE w base go l.length cap (fun j => l.getD j 0) := by
  unfold LOwn at h
  rw [lcells_icells] at h
  exact h
theorem LOwn.of_ownE {w : World} {base cap : Nat} {go : Option Addr} {l : List Int} (h : OwnE w base go l.length cap (fun j => l.getD j 0)) : LOwn w base go cap l := by
  unfold LOwn
  rw [lcells_icells]
  exact h
theorem LOwn.next {w w' : World} {base cap : Nat} {go : Option Addr} {l : List Int} (h : LOwn w base go cap l) (hb : Below w.heap.size w w') : LOwn w' base go cap l := .of_ownE (h.ownE.next hb)
theorem LOwn.at {w : World} {base cap x : Nat} {go : Option Addr} {l : List Int} (h : LOwn w base go cap l) (e : (Value.slice go l.length cap).ownBlock = some x) : base ≤ x ∧ x < w.heap.size := World.ownsRow.lt h x e
theorem LOwn.from {w : World} {base base' cap : Nat} {go : Option Addr} {l : List Int} (h : LOwn w base go cap l) (hb : base' ≤ base) : LOwn w base' go cap l := by
  obtain ⟨hl, h0 | ⟨g', cap', cur, hv, hb', rest⟩⟩ := h
  · exact ⟨hl, .inl h0⟩
  · exact ⟨hl, .inr ⟨g', cap', cur, hv, Nat.le_trans hb hb', rest⟩⟩
theorem LOwn.grown {w w' : World} {base cap : Nat} {go : Option Addr} {l : List Int} {row : Option Nat} (h : LOwn w base go cap l) (hg : w.grownBy w' row) (hne : ∀ x, (Value.slice go l.length cap).ownBlock = some x → row ≠ some x) : LOwn w' base go cap l := .of_ownE (h.ownE.grown hg hne)
/-- Its cells. -/
theorem LOwn.cells {w : World} {base cap : Nat} {go : Option Addr} {l : List Int} (h : LOwn w base go cap l) (hl : 0 < l.length) : ∃ g, go = some ⟨g, 0, none⟩ ∧ base ≤ g ∧ g < w.heap.size ∧ ∀ j u, l[j]? = some u → w.cell? ⟨g, j, none⟩ = some (.int .i64 u) := by
  obtain ⟨g, e, hb, hh⟩ := h.ownE.has hl
  refine ⟨g, e, hb, hh.lt, fun j u hu => ?_⟩
  have hj : j < l.length := (List.getElem?_eq_some_iff.1 hu).1
  have := hh.cell hj
  rw [this]
  simp [List.getD_eq_getElem?_getD, hu]
theorem LOwn.cap {w : World} {base g cap : Nat} {l : List Int} (h : LOwn w base (some ⟨g, 0, none⟩) cap l) : l.length ≤ cap := by
  rcases h.2 with ⟨e, _⟩ | ⟨g', cap', cur, e, _, _, h2, _⟩
  · cases e
  · simp only [Value.slice.injEq, Option.some.injEq, Addr.mk.injEq, and_true, true_and] at e
    obtain ⟨rfl, rfl⟩ := e
    exact h2
theorem wp_appL {o : Oper} {a : Act} {w : World} {K : Act → World → Prop} {Q : Exit → Act → World → Prop} (s x : Operand)
    (ho : o.op = .call { callee := .builtin .append, args := #[s, x], argTypes := #[25, 25] }) (d : Nat) (hd : o.dst = some d) (base gc : Nat) (go : Option Addr) (l l2 : List Int) (hs : a.eval s = .slice go l.length gc) (hown : LOwn w base go gc l) (b i m c : Nat) (hm : l2.length = m) (hx : a.eval x = .slice (some ⟨b, i, none⟩) m c)
    (h0 : ∀ j u, l2[j]? = some u → w.cell? ⟨b, i + j, none⟩ = some (.int .i64 u)) (hk0 : 0 < m) (hk : l.length ≤ 1000000000) (hk2 : m ≤ 1000000000) (hbase : base ≤ w.heap.size)
    (h : ∀ g' gc' w', LOwn w' base (some ⟨g', 0, none⟩) gc' (l ++ l2) → w.grownBy w' (Value.slice go l.length gc).ownBlock → ((Value.slice go l.length gc).ownBlock = some g' ∨ g' = w.heap.size) → K (a.put (some d) (.slice (some ⟨g', 0, none⟩) (l.length + m) gc')) w') : o.wp Tryz.prog a w K Q := by
  obtain ⟨i0, hi0, hz0, hz1, hz2⟩ := info_parts Tryz.infoInt
  subst hm
  refine wp_append_lies w s x 25 ho base 2 i0 _ 1 8 Tryz.underlying25 hi0 hz0 hz1 hz2 rfl (by omega) _ l.length (lcells l) hs hown ⟨b, i, none⟩ l2.length c (lcells l2) hx (by simp [lcells]) ?_ ?_ hk0 (by unfold maxLen; omega) (by omega) hbase w.heap.size rfl ?_
  · intro j u hu
    simp only [lcells, List.getElem?_map, Option.map_eq_some_iff] at hu
    obtain ⟨v, hv, rfl⟩ := hu
    have : (⟨b, i, none⟩ : Addr).add j = ⟨b, i + j, none⟩ := by unfold Addr.add; split <;> simp_all
    rw [this]
    exact h0 j v hv
  · intro u hu
    simp [lcells] at hu
    obtain ⟨j, _, rfl⟩ := hu
    rfl
  · intro g' gc' w' hown' hgrow hat _
    have e : lcells l ++ lcells l2 = lcells (l ++ l2) := by simp [lcells]
    rw [e] at hown'
    rw [hd]
    exact h g' gc' w' (by unfold LOwn; rw [List.length_append]; exact hown') hgrow hat

end Go.Proofs.YteibbknpcgcjjaiGreat

/-
  The weight of an arc, the document's.
-/
set_option linter.unusedVariables false
set_option linter.unusedSimpArgs false
namespace Go.Proofs.YteibbknpcgcjjaiGreat
open Go.RowKit Go.Maps

def lastW (F T G : Nat → Int) (a b : Int) : Nat → Int
  | 0 => 1000000000000
  | k + 1 => if F k = a ∧ T k = b then G k else lastW F T G a b k
theorem lastW_at {F T G : Nat → Int} {a b : Int} {k : Nat} : ∀ n, (∀ j, j < n → F j = a → T j = b → j = k) → k < n → F k = a → T k = b → lastW F T G a b n = G k
  | 0, _, hk, _, _ => by omega
  | n + 1, hu, hk, hF, hT => by
    unfold lastW
    by_cases h : F n = a ∧ T n = b
    · rw [if_pos h, hu n (by omega) h.1 h.2]
    · rw [if_neg h]
      have : k ≠ n := fun e => h (e ▸ ⟨hF, hT⟩)
      exact lastW_at n (fun j hj => hu j (by omega)) (by omega) hF hT
theorem lastW_none {F T G : Nat → Int} {a b : Int} : ∀ n, (∀ j, j < n → ¬ (F j = a ∧ T j = b)) → lastW F T G a b n = 1000000000000
  | 0, _ => rfl
  | n + 1, h => by
    unfold lastW
    rw [if_neg (h n (by omega))]
    exact lastW_none n (fun j hj => h j (by omega))
set_option maxHeartbeats 1000000 in
theorem l1Weight_any (p : Int) (ao : Option Addr) (n cap : Nat) (F T G : Nat → Int) (a c : Int) (hn : n ≤ 1048576) (hg : arcsB p F T G n = true) (w : World) (hr : Row w ao n F T G) :
    Calls Tryz.prog 82 #[.agg #[.int .i64 p, .slice ao n cap], .int .i64 a, .int .i64 c] w fun e w' => e = .returned (.int .i64 (lastW F T G a c n)) ∧ Below w.heap.size w w' := by
  have HG : Hid (arcsB p F T G n = true) := hg
  clear hg
  go_enter Tryz.func82, Tryz.ntmps82
  go_wp2
  go_loop [7] (fun i => ∃ k : Nat, k ≤ n ∧ i = .int .i64 k ∧ Hid (∀ j, j < k → ¬ (F j = a ∧ T j = c))) (fun i => n - (intOf i).toNat)
  case atStart => exact ⟨0, Nat.zero_le _, rfl, fun j hj => by omega⟩
  case round =>
    obtain ⟨k, hk, rfl, hno⟩ := hrel
    by_cases hlt : k < n
    rotate_left
    · have hkn : k = n := by omega
      subst hkn
      go_wp2
      go_ret
      exact ⟨ret_i64 (lastW_none k hno.out).symm, (Below.refl _ _).alloc (Nat.le_refl _) _⟩
    obtain ⟨b, o, hao, c0, c1, c2⟩ := (hr.alloc (.cells #[.int .i64 p, .slice ao n cap] 38)) k hlt
    subst hao
    rcases Bool.eq_false_or_eq_true (F k == a) with hF | hF
    · rcases Bool.eq_false_or_eq_true (T k == c) with hT | hT
      · go_wp2
        go_ret
        have eF : F k = a := by simpa using hF
        have eT : T k = c := by simpa using hT
        exact ⟨ret_i64 (lastW_at n (fun j hj e1 e2 => unique HG.out hj hlt (e1.trans eF.symm) (e2.trans eT.symm)) hlt eF eT).symm, (Below.refl _ _).alloc (Nat.le_refl _) _⟩
      · go_wp2
        go_round
        case rel => exact ⟨k + 1, by omega, by go_num, fun j hj => by
          by_cases e : j = k
          · subst e; simp at hT; exact fun h => hT h.2
          · exact hno.out j (by omega)⟩
        case measure => simp [intOf]; omega
    · go_wp2
      go_round
      case rel => exact ⟨k + 1, by omega, by go_num, fun j hj => by
        by_cases e : j = k
        · subst e; simp at hF; exact fun h => hF h.1
        · exact hno.out j (by omega)⟩
      case measure => simp [intOf]; omega

end Go.Proofs.YteibbknpcgcjjaiGreat

/-
  Sums that end at Far: the document's and the program's.
-/
set_option linter.unusedVariables false
set_option linter.unusedSimpArgs false
namespace Go.Proofs.YteibbknpcgcjjaiGreat
open Go.RowKit
attribute [local go_sem ↓] Go.wp_at_zero Go.wp_at_succ

theorem l1Min_any (a b : Int) (w : World) : Calls Tryz.prog 81 #[.int .i64 a, .int .i64 b] w fun e w' => e = .returned (.int .i64 (min a b)) ∧ w' = w := by
  by_cases h : a < b
  · go_enter Tryz.func81, Tryz.ntmps81
    go_wp2
    go_ret
    exact ⟨ret_i64 (by omega), rfl⟩
  · go_enter Tryz.func81, Tryz.ntmps81
    go_wp2
    go_ret
    exact ⟨ret_i64 (by omega), rfl⟩

theorem l1Add_any (a b : Int) (ha : 0 ≤ a) (ha' : a ≤ 1000000000000) (hb : 0 ≤ b) (hb' : b ≤ 1000000000000) (w : World) : Calls Tryz.prog 79 #[.int .i64 a, .int .i64 b] w fun e w' => e = .returned (.int .i64 (min 1000000000000 (a + b))) ∧ w' = w := by
  go_enter Tryz.func79, Tryz.ntmps79
  go_wp2_with (go_at_call 81; refine (l1Min_any _ _ _).mono ?_; rintro e w1 ⟨rfl, rfl⟩)
  go_ret
  exact ⟨rfl, rfl⟩

theorem plus_any (a b : Int) (ha : 0 ≤ a) (ha' : a ≤ 1000000000000) (hb : 0 ≤ b) (hb' : b ≤ 1000000000000) (w : World) : Calls Tryz.prog 90 #[.int .i64 a, .int .i64 b] w fun e w' => e = .returned (.int .i64 (min 1000000000000 (a + b))) ∧ w' = w := by
  go_enter Tryz.func90, Tryz.ntmps90
  go_wp2 <;>
  · go_ret
    exact ⟨ret_i64 (by omega), rfl⟩

end Go.Proofs.YteibbknpcgcjjaiGreat

/-
  A region that draws its order, taken by hand: an operation whose guard says no.
-/
set_option linter.unusedVariables false
set_option linter.unusedSimpArgs false
namespace Go.Proofs.YteibbknpcgcjjaiGreat
open Go

section
variable {P : Program} {ops : Array Oper} {Q : Exit → Act → World → Prop} {md : Region.Mode} {S : World → Prop}
/-- An operation that is not wanted yields nothing, in whatever order. -/
theorem skipH (i : Nat) (d : Option Tmp) {oi : Oper} {fuel : Nat} {listed : Array Bool} {a : Act} {w : World} (hi : ops[i]? = some oi) (hd : oi.dst = d)
    (hs : Region.noSelect ops = true) (hf : Region.free md ops listed i = true) (hr : (Region.ready md ops listed).contains i = true)
    (hQ : ∀ c a w, Q (.panic c) (a.put oi.dst undef) w → Q (.panic c) a w) (hw : Region.wanted oi (yielded ops a.tmps) = false) (hS : S w)
    (h : wpAnyH P md ops Q S fuel (listed.setIfInBounds i true) (a.put d undef) w) : wpAnyH P md ops Q S (fuel + 1) listed a w :=
  wpAnyH_take hi hs hf hr hQ (.inr ⟨hw, rfl⟩) hS (by rw [hd]; exact h)
/-- The same of one that is alone ready. -/
theorem skip1H (i : Nat) (d : Option Tmp) {oi : Oper} {fuel : Nat} {listed : Array Bool} {a : Act} {w : World} (hi : ops[i]? = some oi) (hd : oi.dst = d) (hr : Region.ready md ops listed = [i])
    (hw : Region.wanted oi (yielded ops a.tmps) = false) (hS : S w)
    (h : wpAnyH P md ops Q S fuel (listed.setIfInBounds i true) (a.put d undef) w) : wpAnyH P md ops Q S (fuel + 1) listed a w :=
  wpAnyH_ready hr (by simp) (AllReadyH.cons hi (fun K hK => by rw [if_neg (by rw [hw]; simp)]; exact hK.out _ _ hS (fun _ => by rw [hd]; exact h)) AllReadyH.nil)
/-- One that yields in every world that keeps to S. -/
theorem takeH (i : Nat) (d : Option Tmp) (v : Value) {oi : Oper} {fuel : Nat} {listed : Array Bool} {a : Act} {w : World} (hi : ops[i]? = some oi) (hd : oi.dst = d)
    (hs : Region.noSelect ops = true) (hf : Region.free md ops listed i = true) (hr : (Region.ready md ops listed).contains i = true)
    (hQ : ∀ c a w, Q (.panic c) (a.put oi.dst v) w → Q (.panic c) a w) (hw : Region.wanted oi (yielded ops a.tmps) = true) (hS : S w) (hy : ∀ w, S w → (execOp a.eval oi).run P w = .ok (.value v) w)
    (h : wpAnyH P md ops Q S fuel (listed.setIfInBounds i true) (a.put d v) w) : wpAnyH P md ops Q S (fuel + 1) listed a w :=
  wpAnyH_take hi hs hf hr hQ (.inl ⟨hw, hy⟩) hS (by rw [hd]; exact h)
/-- An operation that is alone ready and wanted. -/
theorem step1H (i : Nat) (oi : Oper) {fuel : Nat} {listed : Array Bool} {a : Act} {w : World} (hi : ops[i]? = some oi) (hr : Region.ready md ops listed = [i])
    (hw : Region.wanted oi (yielded ops a.tmps) = true) (h : Oper.wp P oi a w (fun a' w' => S w' ∧ wpAnyH P md ops Q S fuel (listed.setIfInBounds i true) a' w') Q) : wpAnyH P md ops Q S (fuel + 1) listed a w :=
  wpAnyH_ready hr (by simp) (AllReadyH.cons hi (fun K hK => by rw [if_pos hw]; exact Oper.wp_mono (fun a' w' h' => hK.out _ _ h'.1 (fun _ => h'.2)) h) AllReadyH.nil)
end

end Go.Proofs.YteibbknpcgcjjaiGreat

/-
  The document's l7Unpack.
-/
set_option linter.unusedVariables false
set_option linter.unusedSimpArgs false
namespace Go.Proofs.YteibbknpcgcjjaiGreat
open Go.RowKit
attribute [local go_sem ↓] Go.wp_at_zero Go.wp_at_succ

def hsB (m : Nat) (L H : Nat → Int) (a b : Int) : Bool := decide (fnd L H a b m < m ∧ L (fnd L H a b m) = a ∧ H (fnd L H a b m) = b)
theorem hsB_iff {m : Nat} {L H : Nat → Int} {a b : Int} : hsB m L H a b = true ↔ Hs m L H a b := by
  unfold hsB
  rw [decide_eq_true_eq]
  exact ⟨fun h => ⟨_, h⟩, fun h => fnd_at m h⟩
/-- What a way is unpacked from, of a map, an order, edges and a metric. -/
def netOf (n : Nat) (F T G P : Nat → Int) (m : Nat) (L H U V : Nat → Int) : Net :=
  { hs := fun a b => hsB m L H a b, D := fun a b => V (fnd L H a b m), U := fun a b => U (fnd L H a b m), O := P, lw := fun a b => lastW F T G a b n }
theorem l4Find_net {p : Int} {L H : Nat → Int} {m : Nat} (hE : edB p L H m = true) (eo : Option Addr) (ecap : Nat) (a b : Int) (hm : m ≤ 1048576) (w : World) (hr : ERow w eo m L H) :
    Calls Tryz.prog 80 #[.slice eo m ecap, .int .i64 a, .int .i64 b] w fun e w' => ∃ r : Int, e = .returned (.int .i64 r) ∧ (hsB m L H a b = true → r = (fnd L H a b m : Int) ∧ fnd L H a b m < m) ∧ (hsB m L H a b = false → r < 0) ∧ Below w.heap.size w w' := by
  cases h : hsB m L H a b with
  | true =>
    have hf := fnd_at m (hsB_iff.1 h)
    exact (l4Find_is eo m ecap L H a b (fnd L H a b m) hf.1 hf.2.1 hf.2.2 (fun j hj h1 h2 => (fnd_is hE hj h1 h2).symm) hm w hr).mono fun e w' ⟨h1, h2⟩ => ⟨_, h1, fun _ => ⟨rfl, hf.1⟩, fun h => (by cases h), h2⟩
  | false =>
    exact (l4Find_any eo m ecap L H a b hm w hr).mono fun e w' ⟨r, h1, h2, h3⟩ => ⟨r, h1, fun h => (by cases h), fun _ => h2.2 (fun hs => by rw [hsB_iff.2 hs] at h; cases h), h3⟩
/-- Where a map, an order, edges and a metric lie. -/
structure NRows (w : World) (ao : Option Addr) (n : Nat) (F T G : Nat → Int) (po : Option Addr) (k : Nat) (P : Nat → Int) (eo : Option Addr) (m : Nat) (L H : Nat → Int) (uo : Option Addr) (U : Nat → Int) (vo : Option Addr) (V : Nat → Int) : Prop where
  arcs : Row w ao n F T G
  ord : IRow w po k P
  eds : ERow w eo m L H
  up : IRow w uo m U
  dn : IRow w vo m V
theorem NRows.below {w w' : World} {B : Nat} {ao : Option Addr} {n : Nat} {F T G : Nat → Int} {po : Option Addr} {k : Nat} {P : Nat → Int} {eo : Option Addr} {m : Nat} {L H : Nat → Int} {uo : Option Addr} {U : Nat → Int} {vo : Option Addr} {V : Nat → Int} (h : NRows w ao n F T G po k P eo m L H uo U vo V) (hb : Below B w w') (hB : w.heap.size ≤ B) : NRows w' ao n F T G po k P eo m L H uo U vo V :=
  ⟨h.arcs.below hb hB, h.ord.below hb hB, h.eds.below hb hB, h.up.below hb hB, h.dn.below hb hB⟩

theorem lown_lit2 (w : World) {base : Nat} (a b : Int) (hb : base ≤ w.heap.size) : LOwn (w.alloc (.cells #[.int .i64 a, .int .i64 b] 2)) base (some ⟨w.heap.size, 0, none⟩) 2 [a, b] := by
  have := World.ownsRow_lit (base := base) (e := 2) (size := 1) w #[.int .i64 a, .int .i64 b] 2 hb (by unfold maxLen; omega) rfl
  simpa [LOwn, lcells] using this
/-- The boxes of the three arguments, in a later world. -/
structure U3 (w W : World) (p : Int) (ao : Option Addr) (n cap : Nat) (po : Option Addr) (k pcap : Nat) (eo : Option Addr) (m ecap : Nat) (uo : Option Addr) (ucap : Nat) (vo : Option Addr) (vcap : Nat) : Prop where
  bel : Below w.heap.size w W
  g0 : W.cell? ⟨w.heap.size, 0, none⟩ = some (.int .i64 p)
  g1 : W.cell? ⟨w.heap.size, 1, none⟩ = some (.slice ao n cap)
  h0 : W.cell? ⟨w.heap.size + 1, 0, none⟩ = some (.slice po k pcap)
  h1 : W.cell? ⟨w.heap.size + 1, 1, none⟩ = some (.slice eo m ecap)
  m0 : W.cell? ⟨w.heap.size + 2, 0, none⟩ = some (.slice uo m ucap)
  m1 : W.cell? ⟨w.heap.size + 2, 1, none⟩ = some (.slice vo m vcap)
  sz : w.heap.size + 3 ≤ W.heap.size
theorem u3_new (w : World) {p : Int} {ao : Option Addr} {n cap : Nat} {po : Option Addr} {k pcap : Nat} {eo : Option Addr} {m ecap : Nat} {uo : Option Addr} {ucap : Nat} {vo : Option Addr} {vcap : Nat} : U3 w (((w.alloc (.cells #[.int .i64 p, .slice ao n cap] 38)).alloc (.cells #[.slice po k pcap, .slice eo m ecap] 42)).alloc (.cells #[.slice uo m ucap, .slice vo m vcap] 44)) p ao n cap po k pcap eo m ecap uo ucap vo vcap :=
  ⟨(((Below.refl _ _).alloc (Nat.le_refl _) _).alloc (by simp) _).alloc (by simp; omega) _, by simp [go_sem], by simp [go_sem], by simp [go_sem], by simp [go_sem], by simp [go_sem], by simp [go_sem], by simp⟩
theorem U3.next {w W W' : World} {p : Int} {ao : Option Addr} {n cap : Nat} {po : Option Addr} {k pcap : Nat} {eo : Option Addr} {m ecap : Nat} {uo : Option Addr} {ucap : Nat} {vo : Option Addr} {vcap : Nat} (h : U3 w W p ao n cap po k pcap eo m ecap uo ucap vo vcap) (hb : Below W.heap.size W W') : U3 w W' p ao n cap po k pcap eo m ecap uo ucap vo vcap :=
  ⟨below_next h.bel (Nat.le_refl _) hb, keep_cell hb (Nat.le_refl _) h.g0, keep_cell hb (Nat.le_refl _) h.g1, keep_cell hb (Nat.le_refl _) h.h0, keep_cell hb (Nat.le_refl _) h.h1, keep_cell hb (Nat.le_refl _) h.m0, keep_cell hb (Nat.le_refl _) h.m1, Nat.le_trans h.sz hb.size⟩

end Go.Proofs.YteibbknpcgcjjaiGreat
