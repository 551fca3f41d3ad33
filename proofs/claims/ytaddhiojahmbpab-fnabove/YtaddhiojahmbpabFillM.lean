/-
  The fill is as told, chordal, and has each arc's edge: the plain part.
-/
import Derived.Test.YtaddhiojahmbpabFillP
import Derived.Test.YtaddhiojahmbpabEList
import Derived.Test.YtaddhiojahmbpabChdP
set_option linter.unusedVariables false
set_option linter.unusedSimpArgs false
namespace Go.Proofs.Ytaddhiojahmbpab

theorem tk_keeps {B : Nat → Nat → Bool} {a x y : Nat} (hx : x ≠ a) (hy : y ≠ a) (h : B x y = true) : tk B a x y = true := by
  unfold tk
  rw [if_neg (by omega), h]; rfl
theorem tk_joins {B : Nat → Nat → Bool} {a x y : Nat} (hx : x ≠ a) (hy : y ≠ a) (hxy : x ≠ y) (h1 : B a x = true) (h2 : B a y = true) : tk B a x y = true := by
  unfold tk
  rw [if_neg (by omega), h1, h2]
  have : (x != y) = true := by simpa using hxy
  rw [this]; simp
theorem place_ne {p : Nat} {P : Nat → Int} (he : eachB p P p = true) {i j : Nat} (hi : i < p) (hj : j < p) (h : i ≠ j) : (P i).toNat ≠ (P j).toNat := fun e => by
  have h1 := (each_in p he i hi).1
  have h2 := (each_in p he j hj).1
  exact h (each_inj he hi hj (by omega))
/-- Two that are joined stay so till one of them goes. -/
theorem sqO_stays {B : Nat → Nat → Bool} {P : Nat → Int} {p : Nat} (he : eachB p P p = true) {x y t : Nat} (hx : x < p) (hy : y < p) (h : sqO B P t (P x).toNat (P y).toNat = true) : ∀ s, t ≤ s → s ≤ x → s ≤ y → sqO B P s (P x).toNat (P y).toNat = true := fun s hs h1 h2 => by
  induction s with
  | zero =>
    have : t = 0 := by omega
    subst this; exact h
  | succ s ih =>
    by_cases e : t = s + 1
    · subst e; exact h
    · have := ih (by omega) (by omega) (by omega)
      exact tk_keeps (place_ne he hx (by omega) (by omega)) (place_ne he hy (by omega) (by omega)) this
theorem fill_chord {B : Nat → Nat → Bool} {P : Nat → Int} {p : Nat} (he : eachB p P p = true) {r u v : Nat} (hr : r < u) (huv : u < v) (hv : v < p) (h1 : sqO B P r (P r).toNat (P u).toNat = true) (h2 : sqO B P r (P r).toNat (P v).toNat = true) : sqO B P u (P u).toNat (P v).toNat = true := by
  have h3 : sqO B P (r + 1) (P u).toNat (P v).toNat = true := tk_joins (place_ne he (by omega) (by omega) (by omega)) (place_ne he hv (by omega) (by omega)) (place_ne he (by omega) hv (by omega)) h1 h2
  exact sqO_stays he (by omega) hv h3 u (by omega) (Nat.le_refl _) (by omega)
theorem nbA_has {F T : Nat → Int} : ∀ n i, i < n → nbA F T n (F i).toNat (T i).toNat = true
  | 0, i, hi => by omega
  | n + 1, i, hi => by
    show upd2 (nbA F T n) (F n).toNat (T n).toNat true (F i).toNat (T i).toNat = true
    rw [upd2_at]
    by_cases e : i = n
    · subst e; rw [if_pos (Or.inl ⟨rfl, rfl⟩)]
    · split
      · rfl
      · exact nbA_has n i (by omega)

theorem getD_at {l : List (Int × Int)} {k : Nat} (hk : k < l.length) : l.getD k (0, 0) = l[k] := by simp [List.getD, hk]
theorem hs_mem {l : List (Int × Int)} {a b : Int} : Hs l.length (Lf l) (Hf l) a b ↔ (a, b) ∈ l := by
  constructor
  · rintro ⟨i, hi, h1, h2⟩
    unfold Lf at h1
    unfold Hf at h2
    rw [getD_at hi] at h1 h2
    have : l[i] = (a, b) := Prod.ext h1 h2
    rw [← this]
    exact List.getElem_mem hi
  · intro h
    obtain ⟨i, hi, e⟩ := List.mem_iff_getElem.1 h
    refine ⟨i, hi, ?_, ?_⟩
    · unfold Lf; rw [getD_at hi, e]
    · unfold Hf; rw [getD_at hi, e]
theorem ed_of_list {p : Int} {l : List (Int × Int)} (h1 : ∀ x ∈ l, edgeB x.1 x.2 p = true) (h2 : l.Pairwise lt2) : ∀ k, k ≤ l.length → edB p (Lf l) (Hf l) k = true
  | 0, _ => rfl
  | k + 1, hk => by
    have hk' : k < l.length := by omega
    refine edB_step (ed_of_list h1 h2 k (by omega)) ?_ ?_
    · unfold Lf Hf
      rw [getD_at hk']
      exact h1 _ (List.getElem_mem hk')
    · by_cases e : k = 0
      · exact Or.inl e
      · right
        have hk2 : k - 1 < l.length := by omega
        unfold Lf Hf
        rw [getD_at hk', getD_at hk2]
        exact List.pairwise_iff_getElem.1 h2 (k - 1) k hk2 hk' (by omega)
/-- The fill of an order is as Parents wants it, and chordal. -/
theorem fill_ok {B : Nat → Nat → Bool} {P : Nat → Int} {p : Nat} (hp1 : 1 ≤ p) (hp : p ≤ 24) (he : eachB p P p = true) :
    Chd (p : Int) (allS B P p p).length (Lf (allS B P p p)) (Hf (allS B P p p)) := by
  have hall : ∀ x ∈ allS B P p p, ∃ r h : Nat, r < h ∧ h < p ∧ sqO B P r (P r).toNat (P h).toNat = true ∧ x = ((r : Int), (h : Int)) := fun x hx => by
    obtain ⟨r, h, _, h2, h3, h4, h5⟩ := (mem_allS x p).1 hx
    exact ⟨r, h, h3, h2, h4, h5⟩
  have hsrt := srt_allS (B := B) (P := P) (p := p) p
  have hin : ∀ r h : Nat, r < h → h < p → sqO B P r (P r).toNat (P h).toNat = true → ((r : Int), (h : Int)) ∈ allS B P p p := fun r h h1 h2 h3 => (mem_allS _ p).2 ⟨r, h, by omega, h2, h1, h3, rfl⟩
  generalize allS B P p p = l at hall hsrt hin ⊢
  refine ⟨?_, ?_⟩
  · unfold edgesB
    rw [ed_of_list (fun x hx => ?_) hsrt l.length (Nat.le_refl _)]
    · simp [inB]; omega
    · obtain ⟨r, h, h1, h2, _, rfl⟩ := hall x hx
      simp [edgeB, inB]; omega
  · intro i hi k hik hk hL
    rw [hs_mem]
    have e1 : Lf l k = Lf l i := hL k hik (Nat.le_refl _)
    have hlt := List.pairwise_iff_getElem.1 hsrt i k hi hk hik
    obtain ⟨r, u, a1, a2, a3, a4⟩ := hall _ (List.getElem_mem hi)
    obtain ⟨r', v, b1, b2, b3, b4⟩ := hall _ (List.getElem_mem hk)
    unfold Lf Hf at *
    rw [getD_at hi, getD_at hk] at *
    rw [a4, b4] at hlt
    rw [a4, b4] at e1 ⊢
    have e1' : r' = r := by
      have : ((r' : Nat) : Int) = (r : Int) := e1
      omega
    subst e1'
    rw [lt2_iff] at hlt
    simp at hlt
    exact hin u v (by omega) b2 (fill_chord he a1 (by omega) b2 a3 b3)
/-- Each arc's edge is in the fill. -/
theorem fill_arc {F T : Nat → Int} {n : Nat} {P : Nat → Int} {p : Nat} (he : eachB p P p = true) (hB : Fair (nbA F T n)) {i : Nat} (hi : i < n) (hF : 0 ≤ F i ∧ F i < (p : Int)) (hT : 0 ≤ T i ∧ T i < (p : Int)) (hne : F i ≠ T i) {x y : Nat} (hx : x < p) (hy : y < p) (ex : P x = F i) (ey : P y = T i) : (min (x : Int) y, max (x : Int) y) ∈ allS (nbA F T n) P p p := by
  have h0 := nbA_has n i hi (F := F) (T := T)
  have hxy : x ≠ y := fun e => by subst e; omega
  rw [← ex, ← ey] at h0
  by_cases hl : x < y
  · have e1 : min (x : Int) y = x := by omega
    have e2 : max (x : Int) y = y := by omega
    rw [e1, e2]
    exact (mem_allS _ p).2 ⟨x, y, hx, hy, hl, sqO_stays (B := nbA F T n) (t := 0) he hx hy h0 x (Nat.zero_le _) (Nat.le_refl _) (by omega), rfl⟩
  · have e1 : min (x : Int) y = y := by omega
    have e2 : max (x : Int) y = x := by omega
    rw [e1, e2]
    rw [hB.1] at h0
    exact (mem_allS _ p).2 ⟨y, x, hy, hx, by omega, sqO_stays (B := nbA F T n) (t := 0) he hy hx h0 y (Nat.zero_le _) (Nat.le_refl _) (by omega), rfl⟩

end Go.Proofs.Ytaddhiojahmbpab
