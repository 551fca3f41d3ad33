/-
  Helpers, merged: Dist, Add, Last, DistSpec, Ans, DistD, Heap.
-/
import Derived.Test.YticckgmkhgnmfaaDoorPack1
import Derived.Test.YticckgmkhgnmfaaDoorRows
import Derived.WalkKit
import Derived.Deep.QuietTactic
import Derived.BigQuiet
import Derived.Test.YticckgmkhgnmfaaDoorPack2
import Derived.BigRegion
import Derived.Deep.AppendLies
/-
  Distances, with no program in sight: what a right list of distances is, that going over all arcs once a place finds it, and that going on from places that wait keeps to it.
-/
set_option linter.unusedVariables false
set_option linter.unusedSimpArgs false
namespace Go.Proofs.YticckgmkhgnmfaaDoor

def up1 (d : Nat → Int) (v : Nat) (x : Int) : Nat → Int := fun j => if j = v then x else d j
theorem up1_same (d : Nat → Int) (v : Nat) (x : Int) : up1 d v x v = x := by simp [up1]
theorem up1_other (d : Nat → Int) {v j : Nat} (x : Int) (h : j ≠ v) : up1 d v x j = d j := by simp [up1, h]

/-- The sum of f over the numbers below n. -/
def sumTo (f : Nat → Int) : Nat → Int
  | 0 => 0
  | n + 1 => sumTo f n + f n
theorem sumTo_congr {f g : Nat → Int} : ∀ n, (∀ v, v < n → f v = g v) → sumTo f n = sumTo g n
  | 0, _ => rfl
  | n + 1, h => by simp only [sumTo]; rw [sumTo_congr n (fun v hv => h v (by omega)), h n (by omega)]
theorem sumTo_le {f g : Nat → Int} : ∀ n, (∀ v, v < n → f v ≤ g v) → sumTo f n ≤ sumTo g n
  | 0, _ => Int.le_refl _
  | n + 1, h => by
    simp only [sumTo]
    have := sumTo_le n (fun v hv => h v (by omega))
    have := h n (by omega)
    omega
theorem sumTo_at {f g : Nat → Int} {v : Nat} (he : ∀ j, j ≠ v → f j = g j) : ∀ n, v < n → sumTo f n = sumTo g n - g v + f v
  | 0, h => by omega
  | n + 1, h => by
    simp only [sumTo]
    by_cases e : v = n
    · subst e
      rw [sumTo_congr v (fun j hj => he j (by omega))]; omega
    · rw [sumTo_at he n (by omega), he n (by omega)]; omega
theorem sumTo_const (c : Int) : ∀ n : Nat, sumTo (fun _ => c) n = c * n
  | 0 => by simp [sumTo]
  | n + 1 => by simp only [sumTo]; rw [sumTo_const c n]; push_cast; rw [Int.mul_add]; omega

/-- The arcs of a right map of p places. -/
def Arcs (p n : Nat) (F T G : Nat → Int) : Prop := ∀ k, k < n → 0 ≤ F k ∧ F k < p ∧ 0 ≤ T k ∧ T k < p ∧ F k ≠ T k ∧ 1 ≤ G k ∧ G k ≤ 1000000

/-- D are the distances from s. -/
structure Sol (p n : Nat) (F T G : Nat → Int) (s : Nat) (D : Nat → Int) : Prop where
  zero : D s = 0
  lo : ∀ v, v < p → 0 ≤ D v
  hi : ∀ v, v < p → D v ≤ 1000000000000
  fix : ∀ k, k < n → D (T k).toNat ≤ D (F k).toNat + G k
  via : ∀ v, v < p → v ≠ s → D v < 1000000000000 → ∃ k, k < n ∧ (T k).toNat = v ∧ D (F k).toNat + G k ≤ D v

/-- One arc, as the document goes over it. -/
def relax (F T G : Nat → Int) (d : Nat → Int) (k : Nat) : Nat → Int :=
  up1 d (T k).toNat (min (d (T k).toNat) (min 1000000000000 (d (F k).toNat + G k)))
def turnTo (F T G : Nat → Int) (d : Nat → Int) : Nat → (Nat → Int)
  | 0 => d
  | k + 1 => relax F T G (turnTo F T G d k) k
def turns (F T G : Nat → Int) (n : Nat) (d : Nat → Int) : Nat → (Nat → Int)
  | 0 => d
  | t + 1 => turnTo F T G (turns F T G n d t) n
def start (s : Nat) : Nat → Int := fun v => if v = s then 0 else 1000000000000

theorem relax_le (F T G d : Nat → Int) (k v : Nat) : relax F T G d k v ≤ d v := by
  unfold relax up1
  split
  · next h => subst h; exact Int.min_le_left _ _
  · exact Int.le_refl _
theorem relax_at (F T G d : Nat → Int) (k : Nat) : relax F T G d k (T k).toNat ≤ d (F k).toNat + G k := by
  unfold relax
  rw [up1_same]
  exact Int.le_trans (Int.min_le_right _ _) (Int.min_le_right _ _)
theorem relax_ge {p n : Nat} {F T G : Nat → Int} {s : Nat} {D : Nat → Int} (hA : Arcs p n F T G) (h : Sol p n F T G s D) {d : Nat → Int} {k : Nat} (hk : k < n) (hd : ∀ v, v < p → D v ≤ d v) : ∀ v, v < p → D v ≤ relax F T G d k v := fun v hv => by
  unfold relax up1
  split
  · next e =>
    subst e
    have h1 := hd _ hv
    have h2 := h.fix k hk
    have h3 := hA k hk
    have h4 := hd (F k).toNat (by omega)
    have h5 := h.hi _ hv
    exact Int.le_min.2 ⟨h1, Int.le_min.2 ⟨h5, by omega⟩⟩
  · exact hd v hv
theorem turnTo_le (F T G d : Nat → Int) (v : Nat) : ∀ k, turnTo F T G d k v ≤ d v
  | 0 => Int.le_refl _
  | k + 1 => Int.le_trans (relax_le F T G _ k v) (turnTo_le F T G d v k)
theorem turnTo_anti (F T G d : Nat → Int) (v : Nat) (j : Nat) : ∀ k, j ≤ k → turnTo F T G d k v ≤ turnTo F T G d j v
  | 0, h => by
    obtain rfl : j = 0 := by omega
    exact Int.le_refl _
  | k + 1, h => by
    by_cases e : j = k + 1
    · subst e; exact Int.le_refl _
    · exact Int.le_trans (relax_le F T G _ k v) (turnTo_anti F T G d v j k (by omega))
theorem turnTo_at (F T G d : Nat → Int) {k n : Nat} (hk : k < n) : turnTo F T G d n (T k).toNat ≤ d (F k).toNat + G k := by
  have h1 := turnTo_anti F T G d (T k).toNat (k + 1) n (by omega)
  have h2 := relax_at F T G (turnTo F T G d k) k
  have h3 := turnTo_le F T G d (F k).toNat k
  have h4 : turnTo F T G d (k + 1) (T k).toNat = relax F T G (turnTo F T G d k) k (T k).toNat := rfl
  omega
theorem turnTo_ge {p n : Nat} {F T G : Nat → Int} {s : Nat} {D : Nat → Int} (hA : Arcs p n F T G) (h : Sol p n F T G s D) {d : Nat → Int} (hd : ∀ v, v < p → D v ≤ d v) : ∀ k, k ≤ n → ∀ v, v < p → D v ≤ turnTo F T G d k v
  | 0, _ => hd
  | k + 1, hk => relax_ge hA h (by omega) (turnTo_ge hA h hd k (by omega))
theorem turns_le (F T G : Nat → Int) (n : Nat) (d : Nat → Int) (v : Nat) : ∀ t, turns F T G n d t v ≤ d v
  | 0 => Int.le_refl _
  | t + 1 => Int.le_trans (turnTo_le F T G _ v n) (turns_le F T G n d v t)
theorem turns_ge {p n : Nat} {F T G : Nat → Int} {s : Nat} {D : Nat → Int} (hA : Arcs p n F T G) (h : Sol p n F T G s D) {d : Nat → Int} (hd : ∀ v, v < p → D v ≤ d v) : ∀ t, ∀ v, v < p → D v ≤ turns F T G n d t v
  | 0 => hd
  | t + 1 => turnTo_ge hA h (turns_ge hA h hd t) n (Nat.le_refl _)

theorem turnTo_lo {p n : Nat} {F T G : Nat → Int} (hA : Arcs p n F T G) {d : Nat → Int} (hd : ∀ v, 0 ≤ d v) : ∀ k, k ≤ n → ∀ v, 0 ≤ turnTo F T G d k v
  | 0, _ => hd
  | k + 1, hk => fun v => by
    have ih := turnTo_lo hA hd k (by omega)
    have ha := hA k (by omega)
    show 0 ≤ relax F T G (turnTo F T G d k) k v
    unfold relax up1
    split
    · have h1 := ih (T k).toNat
      have h2 := ih (F k).toNat
      exact Int.le_min.2 ⟨h1, Int.le_min.2 ⟨by omega, by omega⟩⟩
    · exact ih v
theorem turns_lo {p n : Nat} {F T G : Nat → Int} (hA : Arcs p n F T G) {d : Nat → Int} (hd : ∀ v, 0 ≤ d v) : ∀ t v, 0 ≤ turns F T G n d t v
  | 0 => hd
  | t + 1 => turnTo_lo hA (turns_lo hA hd t) n (Nat.le_refl _)
theorem start_lo (s v : Nat) : 0 ≤ start s v ∧ start s v ≤ 1000000000000 := by unfold start; split <;> omega
theorem mid_in {p n : Nat} {F T G : Nat → Int} (hA : Arcs p n F T G) (s t j : Nat) (hj : j ≤ n) (v : Nat) : 0 ≤ turnTo F T G (turns F T G n (start s) t) j v ∧ turnTo F T G (turns F T G n (start s) t) j v ≤ 1000000000000 := by
  refine ⟨turnTo_lo hA (turns_lo hA (fun u => (start_lo s u).1) t) j hj v, ?_⟩
  have h1 := turnTo_le F T G (turns F T G n (start s) t) v j
  have h2 := turns_le F T G n (start s) v t
  have h3 := (start_lo s v).2
  omega

/-- How many places are nearer than x. -/
def cnt (D : Nat → Int) (x : Int) : Nat → Nat
  | 0 => 0
  | m + 1 => cnt D x m + (if D m < x then 1 else 0)
theorem cnt_le (D : Nat → Int) (x : Int) : ∀ m, cnt D x m ≤ m
  | 0 => Nat.le_refl _
  | m + 1 => by unfold cnt; have := cnt_le D x m; split <;> omega
theorem cnt_mono (D : Nat → Int) {x y : Int} (h : x ≤ y) : ∀ m, cnt D x m ≤ cnt D y m
  | 0 => Nat.le_refl _
  | m + 1 => by
    unfold cnt
    have := cnt_mono D h m
    by_cases h1 : D m < x
    · rw [if_pos h1, if_pos (by omega)]; omega
    · rw [if_neg h1]; split <;> omega
theorem cnt_lt (D : Nat → Int) {x y : Int} (h : x ≤ y) {u : Nat} (hx : x ≤ D u) (hy : D u < y) : ∀ m, u < m → cnt D x m < cnt D y m
  | 0, hu => by omega
  | m + 1, hu => by
    unfold cnt
    by_cases e : u = m
    · subst e
      have := cnt_mono D h u
      rw [if_neg (by omega), if_pos hy]; omega
    · have := cnt_lt D h hx hy m (by omega)
      by_cases h1 : D m < x
      · rw [if_pos h1, if_pos (by omega)]; omega
      · rw [if_neg h1]; split <;> omega
theorem cnt_self (D : Nat → Int) {v : Nat} : ∀ m, v < m → cnt D (D v) m < m
  | 0, h => by omega
  | m + 1, h => by
    unfold cnt
    by_cases e : v = m
    · subst e
      have := cnt_le D (D v) v
      rw [if_neg (by omega)]; omega
    · have := cnt_self D m (v := v) (by omega)
      split <;> omega

theorem turns_near {p n : Nat} {F T G : Nat → Int} {s : Nat} {D : Nat → Int} (hA : Arcs p n F T G) (h : Sol p n F T G s D) : ∀ t, ∀ v, v < p → cnt D (D v) p ≤ t → turns F T G n (start s) t v ≤ D v
  | t, v, hv, hc => by
    by_cases e : v = s
    · subst e
      have := turns_le F T G n (start v) v t
      simp [start] at this
      rw [h.zero]; exact this
    by_cases hf : D v < 1000000000000
    · obtain ⟨k, hk, hT, hle⟩ := h.via v hv e hf
      have ha := hA k hk
      have hu : (F k).toNat < p := by omega
      have hlt := cnt_lt D (x := D (F k).toNat) (y := D v) (by omega) (Int.le_refl _) (by omega) p hu
      match t, hc with
      | 0, hc => omega
      | t + 1, hc =>
        have ih := turns_near hA h t (F k).toNat hu (by omega)
        have := turnTo_at F T G (turns F T G n (start s) t) hk
        rw [hT] at this
        show turnTo F T G (turns F T G n (start s) t) n v ≤ D v
        omega
    · have := turns_le F T G n (start s) v t
      have h2 : start s v ≤ 1000000000000 := by unfold start; split <;> omega
      omega

/-- What the document finds is the right list. -/
theorem turns_sol {p n : Nat} {F T G : Nat → Int} {s : Nat} {D : Nat → Int} (hA : Arcs p n F T G) (h : Sol p n F T G s D) (v : Nat) (hv : v < p) : turns F T G n (start s) p v = D v := by
  refine Int.le_antisymm (turns_near hA h p v hv (cnt_le _ _ _)) (turns_ge hA h (fun u hu => ?_) p v hv)
  unfold start
  split
  · next e => subst e; rw [h.zero]; exact Int.le_refl _
  · exact h.hi u hu

/-- Something waits among the first len. -/
def Mem (E : Nat → Int × Int) (len : Nat) (e : Int × Int) : Prop := ∃ i, i < len ∧ E i = e

def far01 (x : Int) : Int := if x < 1000000000000 then 0 else 1000000
def lidded (x : Int) : Int := if x < 1000000000000 then x else 26000000

/-- What stands while arcs of u are gone over (the first k of them are done). -/
structure Going (p n : Nat) (F T G : Nat → Int) (s : Nat) (u k : Nat) (d : Nat → Int) (E : Nat → Int × Int) (len : Nat) : Prop where
  zero : d s = 0
  lo : ∀ v, v < p → 0 ≤ d v
  hi : ∀ v, v < p → d v ≤ 1000000000000
  via : ∀ v, v < p → v ≠ s → d v < 1000000000000 → ∃ k, k < n ∧ (T k).toNat = v ∧ d (F k).toNat + G k ≤ d v
  bound : ∀ v, v < p → d v < 1000000000000 → d v + sumTo (fun j => far01 (d j)) p ≤ 24000000
  ent : ∀ i, i < len → 0 ≤ (E i).1 ∧ (E i).1 < p ∧ d (E i).1.toNat ≤ (E i).2 ∧ (E i).2 < 1000000000000
  wait : ∀ x, x < p → x ≠ u → d x < 1000000000000 → Mem E len ((x : Int), d x) ∨ ∀ j, j < n → F j = x → d (T j).toNat ≤ d x + G j
  here : ∀ j, j < k → F j = u → d (T j).toNat ≤ d u + G j

def weight (p : Nat) (d : Nat → Int) (len : Nat) : Int := sumTo (fun j => lidded (d j)) p + len

theorem Going.begin {p n : Nat} {F T G : Nat → Int} {s : Nat} (hp : 1 ≤ p) (hp' : p ≤ 24) (hs : s < p) {E : Nat → Int × Int} (hE : E 0 = ((s : Int), 0)) : Going p n F T G s p 0 (start s) E 1 where
  zero := by simp [start]
  lo := fun v _ => by unfold start; split <;> omega
  hi := fun v _ => by unfold start; split <;> omega
  via := fun v _ hne hlt => by simp [start, hne] at hlt
  bound := fun v hv hlt => by
    have e : v = s := by
      by_cases e : v = s
      · exact e
      · simp [start, e] at hlt
    subst e
    have h1 : start v v = 0 := by simp [start]
    have h2 : sumTo (fun j => far01 (start v j)) p ≤ sumTo (fun _ => 1000000) p := sumTo_le p (fun j _ => by unfold far01; split <;> omega)
    rw [sumTo_const] at h2
    omega
  ent := fun i hi => by
    obtain rfl : i = 0 := by omega
    rw [hE]; simp [start]; omega
  wait := fun x hx _ hlt => by
    have e : x = s := by
      by_cases e : x = s
      · exact e
      · simp [start, e] at hlt
    subst e
    exact Or.inl ⟨0, by omega, by rw [hE]; simp [start]⟩
  here := fun j hj => by omega

theorem Going.done {p n : Nat} {F T G : Nat → Int} {s k : Nat} {d : Nat → Int} {E : Nat → Int × Int} (hA : Arcs p n F T G) (h : Going p n F T G s p k d E 0) : Sol p n F T G s d where
  zero := h.zero
  lo := h.lo
  hi := h.hi
  fix := fun j hj => by
    have ha := hA j hj
    by_cases hf : d (F j).toNat < 1000000000000
    · rcases h.wait (F j).toNat (by omega) (by omega) hf with ⟨i, hi, _⟩ | h1
      · omega
      · exact h1 j hj (by omega)
    · have := h.hi (T j).toNat (by omega)
      omega
  via := h.via

/-- One that waited is taken, and is behind the times. -/
theorem Going.stale {p n : Nat} {F T G : Nat → Int} {s : Nat} {d : Nat → Int} {E E' : Nat → Int × Int} {len : Nat} {q x : Int} (h : Going p n F T G s p 0 d E (len + 1))
    (hm : ∀ e, Mem E (len + 1) e → e = (q, x) ∨ Mem E' len e) (hm' : ∀ i, i < len → Mem E (len + 1) (E' i)) (hq : d q.toNat < x) : Going p n F T G s p 0 d E' len where
  zero := h.zero
  lo := h.lo
  hi := h.hi
  via := h.via
  bound := h.bound
  ent := fun i hi => by
    obtain ⟨j, hj, e⟩ := hm' i hi
    have := h.ent j hj
    rw [e] at this; exact this
  wait := fun v hv hne hlt => by
    rcases h.wait v hv hne hlt with h1 | h1
    · rcases hm _ h1 with e | h2
      · simp at e
        obtain ⟨rfl, e2⟩ := e
        simp at hq; omega
      · exact Or.inl h2
    · exact Or.inr h1
  here := fun j hj => by omega

/-- One that waited is taken, and its arcs are to be gone over. -/
theorem Going.take {p n : Nat} {F T G : Nat → Int} {s : Nat} {d : Nat → Int} {E E' : Nat → Int × Int} {len : Nat} {q x : Int} (h : Going p n F T G s p 0 d E (len + 1))
    (hm : ∀ e, Mem E (len + 1) e → e = (q, x) ∨ Mem E' len e) (hm' : ∀ i, i < len → Mem E (len + 1) (E' i)) : Going p n F T G s q.toNat 0 d E' len where
  zero := h.zero
  lo := h.lo
  hi := h.hi
  via := h.via
  bound := h.bound
  ent := fun i hi => by
    obtain ⟨j, hj, e⟩ := hm' i hi
    have := h.ent j hj
    rw [e] at this; exact this
  wait := fun v hv hne hlt => by
    rcases h.wait v hv (by omega) hlt with h1 | h1
    · rcases hm _ h1 with e | h2
      · simp at e
        obtain ⟨rfl, e2⟩ := e
        simp at hne
      · exact Or.inl h2
    · exact Or.inr h1
  here := fun j hj => by omega

/-- All arcs of u are done. -/
theorem Going.over {p n : Nat} {F T G : Nat → Int} {s u k : Nat} {d : Nat → Int} {E : Nat → Int × Int} {len : Nat} (h : Going p n F T G s u k d E len) (hk : ∀ j, k ≤ j → j < n → F j ≠ u) : Going p n F T G s p 0 d E len where
  zero := h.zero
  lo := h.lo
  hi := h.hi
  via := h.via
  bound := h.bound
  ent := h.ent
  wait := fun v hv _ hlt => by
    by_cases e : v = u
    · subst e
      refine Or.inr fun j hj hF => ?_
      by_cases hjk : j < k
      · exact h.here j hjk hF
      · exact absurd hF (hk j (by omega) hj)
    · exact h.wait v hv e hlt
  here := fun j hj => by omega

/-- An arc that does nothing. -/
theorem Going.skip {p n : Nat} {F T G : Nat → Int} {s u k : Nat} {d : Nat → Int} {E : Nat → Int × Int} {len : Nat} (h : Going p n F T G s u k d E len) (hk : F k = u → d (T k).toNat ≤ d u + G k) : Going p n F T G s u (k + 1) d E len where
  zero := h.zero
  lo := h.lo
  hi := h.hi
  via := h.via
  bound := h.bound
  ent := h.ent
  wait := h.wait
  here := fun j hj hF => by
    by_cases e : j = k
    · subst e; exact hk hF
    · exact h.here j (by omega) hF

theorem far01_nonneg (x : Int) : 0 ≤ far01 x := by unfold far01; split <;> omega

/-- A sum is found that is less, and its place is to wait. -/
theorem Going.put {p n : Nat} {F T G : Nat → Int} {s u k : Nat} {d : Nat → Int} {E E' : Nat → Int × Int} {len : Nat} (hA : Arcs p n F T G) (hs : s < p) (hu : u < p) (h : Going p n F T G s u k d E len) (hk : k < n) (hF : F k = u) (hless : d u + G k < d (T k).toNat) (hfin : d u < 1000000000000)
    (hm : ∀ e, Mem E len e ∨ e = (T k, d u + G k) → Mem E' (len + 1) e) (hm' : ∀ i, i < len + 1 → Mem E len (E' i) ∨ E' i = (T k, d u + G k)) :
    Going p n F T G s u (k + 1) (up1 d (T k).toNat (d u + G k)) E' (len + 1) ∧ weight p (up1 d (T k).toNat (d u + G k)) (len + 1) ≤ weight p d len ∧ up1 d (T k).toNat (d u + G k) u = d u ∧ d u + G k < 1000000000000 := by
  have ha := hA k hk
  have hne : u ≠ (T k).toNat := by omega
  have hlo := h.lo u hu
  have htp : (T k).toNat < p := by omega
  have hts : (T k).toNat ≠ s := fun e => by rw [e, h.zero] at hless; omega
  have hsn : s ≠ (T k).toNat := fun e => hts e.symm
  have hhi := h.hi _ htp
  have hb0 := h.bound u hu hfin
  have hpos : 0 ≤ sumTo (fun j => far01 (d j)) p := by
    have := sumTo_le (f := fun _ => 0) (g := fun j => far01 (d j)) p (fun j _ => far01_nonneg _)
    rw [sumTo_const] at this
    omega
  have hbf : sumTo (fun j => far01 (up1 d (T k).toNat (d u + G k) j)) p = sumTo (fun j => far01 (d j)) p - far01 (d (T k).toNat) := by
    rw [sumTo_at (g := fun j => far01 (d j)) (v := (T k).toNat) (fun j hj => by simp only [up1_other d _ hj]) p htp]
    simp only [up1_same]
    have : far01 (d u + G k) = 0 := by unfold far01; rw [if_pos (by omega)]
    omega
  have hmn : ∀ j, up1 d (T k).toNat (d u + G k) j ≤ d j := fun j => by
    unfold up1
    split
    · next e => subst e; omega
    · exact Int.le_refl _
  refine ⟨⟨?_, ?_, ?_, ?_, ?_, ?_, ?_, ?_⟩, ?_, up1_other d _ hne, by omega⟩
  · rw [up1_other d _ hsn]; exact h.zero
  · intro v hv
    unfold up1
    split
    · omega
    · exact h.lo v hv
  · intro v hv
    exact Int.le_trans (hmn v) (h.hi v hv)
  · intro v hv hvs hlt
    by_cases e : v = (T k).toNat
    · subst e
      refine ⟨k, hk, rfl, ?_⟩
      rw [up1_same, up1_other d _ (by omega)]
      have : (F k).toNat = u := by omega
      rw [this]; exact Int.le_refl _
    · rw [up1_other d _ e] at hlt ⊢
      obtain ⟨k', hk', hT', hle⟩ := h.via v hv hvs hlt
      exact ⟨k', hk', hT', Int.le_trans (Int.add_le_add_right (hmn _) _) hle⟩
  · intro v hv hlt
    rw [hbf]
    have hfp := far01_nonneg (d (T k).toNat)
    by_cases e : v = (T k).toNat
    · subst e
      rw [up1_same]
      by_cases hft : d (T k).toNat < 1000000000000
      · have := h.bound _ htp hft
        omega
      · have : far01 (d (T k).toNat) = 1000000 := by unfold far01; rw [if_neg hft]
        omega
    · rw [up1_other d _ e] at hlt ⊢
      have := h.bound v hv hlt
      omega
  · intro i hi
    rcases hm' i hi with ⟨j, hj, e⟩ | e
    · have := h.ent j hj
      rw [e] at this
      have h2 := hmn (E' i).1.toNat
      exact ⟨this.1, this.2.1, by omega, this.2.2.2⟩
    · rw [e]
      refine ⟨ha.2.2.1, ha.2.2.2.1, ?_, by simp only []; omega⟩
      simp only [up1_same]; exact Int.le_refl _
  · intro x hx hxu hlt
    by_cases e : x = (T k).toNat
    · subst e
      refine Or.inl (hm _ (Or.inr ?_))
      rw [up1_same]
      have : (((T k).toNat : Nat) : Int) = T k := by omega
      rw [this]
    · rw [up1_other d _ e] at hlt ⊢
      rcases h.wait x hx hxu hlt with h1 | h1
      · exact Or.inl (hm _ (Or.inl h1))
      · exact Or.inr fun j hj hFj => Int.le_trans (hmn _) (h1 j hj hFj)
  · intro j hj hFj
    rw [up1_other d _ hne]
    by_cases e : j = k
    · subst e
      rw [up1_same]; exact Int.le_refl _
    · exact Int.le_trans (hmn _) (h.here j (by omega) hFj)
  · unfold weight
    rw [sumTo_at (f := fun j => lidded (up1 d (T k).toNat (d u + G k) j)) (g := fun j => lidded (d j)) (v := (T k).toNat) (fun j hj => by simp only [up1_other d _ hj]) p htp]
    simp only [up1_same]
    have h1 : lidded (d u + G k) = d u + G k := by unfold lidded; rw [if_pos (by omega)]
    have h2 : d u + G k + 1 ≤ lidded (d (T k).toNat) := by
      unfold lidded
      split <;> omega
    push_cast
    omega

theorem weight_start {p : Nat} (hp : p ≤ 24) (s : Nat) : weight p (start s) 1 ≤ 624000001 := by
  unfold weight
  have h2 : sumTo (fun j => lidded (start s j)) p ≤ sumTo (fun _ => 26000000) p := sumTo_le p (fun j _ => by unfold start lidded; split <;> split <;> omega)
  rw [sumTo_const] at h2
  push_cast
  omega
theorem weight_len {p n : Nat} {F T G : Nat → Int} {s u k : Nat} {d : Nat → Int} {E : Nat → Int × Int} {len : Nat} (h : Going p n F T G s u k d E len) : (len : Int) ≤ weight p d len ∧ 0 ≤ weight p d len := by
  unfold weight
  have := sumTo_le (f := fun _ => 0) (g := fun j => lidded (d j)) p (fun j hj => by have := h.lo j hj; unfold lidded; split <;> omega)
  rw [sumTo_const] at this
  omega

end Go.Proofs.YticckgmkhgnmfaaDoor

/-
  Sums that end at Far: the document's and the program's.
-/
set_option linter.unusedVariables false
set_option linter.unusedSimpArgs false
namespace Go.Proofs.YticckgmkhgnmfaaDoor
open Go.RowKit
attribute [local go_sem ↓] Go.wp_at_zero Go.wp_at_succ

theorem l1Min_any (a b : Int) (w : World) : Calls Tryd.prog 95 #[.int .i64 a, .int .i64 b] w fun e w' => e = .returned (.int .i64 (min a b)) ∧ w' = w := by
  by_cases h : a < b
  · go_enter Tryd.func95, Tryd.ntmps95
    go_wp2
    go_ret
    exact ⟨ret_i64 (by omega), rfl⟩
  · go_enter Tryd.func95, Tryd.ntmps95
    go_wp2
    go_ret
    exact ⟨ret_i64 (by omega), rfl⟩

theorem l1Add_any (a b : Int) (ha : 0 ≤ a) (ha' : a ≤ 1000000000000) (hb : 0 ≤ b) (hb' : b ≤ 1000000000000) (w : World) : Calls Tryd.prog 96 #[.int .i64 a, .int .i64 b] w fun e w' => e = .returned (.int .i64 (min 1000000000000 (a + b))) ∧ w' = w := by
  go_enter Tryd.func96, Tryd.ntmps96
  go_wp2_with (go_at_call 95; refine (l1Min_any _ _ _).mono ?_; rintro e w1 ⟨rfl, rfl⟩)
  go_ret
  exact ⟨rfl, rfl⟩

theorem plus_any (a b : Int) (ha : 0 ≤ a) (ha' : a ≤ 1000000000000) (hb : 0 ≤ b) (hb' : b ≤ 1000000000000) (w : World) : Calls Tryd.prog 89 #[.int .i64 a, .int .i64 b] w fun e w' => e = .returned (.int .i64 (min 1000000000000 (a + b))) ∧ w' = w := by
  go_enter Tryd.func89, Tryd.ntmps89
  go_wp2 <;>
  · go_ret
    exact ⟨ret_i64 (by omega), rfl⟩

end Go.Proofs.YticckgmkhgnmfaaDoor

/-
  A region that draws its order and whose last operation waits for all others: one walk in the order of the text serves every order; the last operation may store.
-/
set_option linter.unusedVariables false
set_option linter.unusedSimpArgs false
namespace Go.Proofs.YticckgmkhgnmfaaDoor
open Go

theorem yielded_congr {ops ops' : Array Oper} (h : ∀ j : Nat, (ops[j]?).map (·.dst) = (ops'[j]?).map (·.dst)) (tmps : Array Value) : yielded ops tmps = yielded ops' tmps := by
  funext j
  have e : (ops[j]?.bind fun x => x.dst) = (ops'[j]?.bind fun x => x.dst) := by
    have := h j
    cases h1 : ops[j]? <;> cases h2 : ops'[j]? <;> simp_all
  unfold yielded
  rw [e]

theorem ready_congr {md : Region.Mode} {ops ops' : Array Oper} (hs : ops.size = ops'.size) (h : ∀ j : Nat, (ops[j]?).map (·.after) = (ops'[j]?).map (·.after)) (listed : Array Bool) : Region.ready md ops listed = Region.ready md ops' listed := by
  unfold Region.ready
  rw [hs]
  apply List.filter_congr
  intro j _
  have := h j
  cases h1 : ops[j]? <;> cases h2 : ops'[j]? <;> simp_all

/-- What is waited for stands ahead. -/
def fwdB (ops : Array Oper) : Bool := (List.range ops.size).all fun j => match ops[j]? with
  | some o => o.after.all fun e => !Region.binds .any e || decide (e.on < j)
  | none => true
/-- Number n waits for all ahead of it. -/
def lastB (ops : Array Oper) (n : Nat) : Bool := match ops[n]? with
  | some o => (List.range n).all fun j => o.after.any fun e => Region.binds .any e && e.on == j
  | none => false

theorem ready_ne {ops : Array Oper} (hf : fwdB ops = true) {listed : Array Bool} (hs : listed.size = ops.size) : ∀ j, j < ops.size → listed.getD j true = false → Region.ready .any ops listed ≠ [] := by
  intro j
  induction j using Nat.strongRecOn with
  | ind j ih =>
    intro hj hl h0
    have hj' : ops[j]? = some ops[j] := Array.getElem?_eq_getElem hj
    by_cases hr : ∀ e ∈ ops[j].after, Region.binds .any e = true → listed.getD e.on false = true
    · have : j ∈ Region.ready .any ops listed := mem_ready.2 ⟨hl, _, hj', hr⟩
      rw [h0] at this
      cases this
    · have hr' : ∃ e, e ∈ ops[j].after ∧ Region.binds .any e = true ∧ ¬ listed.getD e.on false = true := by
        refine Classical.byContradiction fun hn => hr fun e he hb => ?_
        exact Classical.byContradiction fun hx => hn ⟨e, he, hb, hx⟩
      obtain ⟨e, he, hb, hx⟩ := hr'
      have hlt : e.on < j := by
        unfold fwdB at hf
        have := List.all_eq_true.1 hf j (List.mem_range.2 hj)
        simp only [hj'] at this
        have := Array.all_eq_true_iff_forall_mem.1 this e he
        simpa [hb] using this
      have hlt' : e.on < listed.size := by omega
      refine ih e.on hlt (by omega) ?_ h0
      simp [hlt'] at hx ⊢
      exact hx

theorem all_listed {ops : Array Oper} {n : Nat} (hn : ops.size = n + 1) (hl : lastB ops n = true) {listed : Array Bool} (hs : listed.size = ops.size) (hr : n ∈ Region.ready .any ops listed) : Region.ready .any ops (listed.setIfInBounds n true) = [] := by
  refine List.eq_nil_iff_forall_not_mem.2 fun i hi => ?_
  obtain ⟨hli, o, ho, _⟩ := mem_ready.1 hi
  have hin : i < n + 1 := by
    have := (Array.getElem?_eq_some_iff.1 ho).1
    omega
  obtain ⟨_, o', ho', hall⟩ := mem_ready.1 hr
  by_cases e : i = n
  · subst e
    have : i < listed.size := by omega
    simp [this] at hli
  · unfold lastB at hl
    rw [ho'] at hl
    have := List.all_eq_true.1 hl i (List.mem_range.2 (by omega))
    obtain ⟨ed, hed, hb⟩ : ∃ ed ∈ o'.after, Region.binds .any ed = true ∧ ed.on = i := by
      obtain ⟨x, hx, hp⟩ := Array.any_eq_true.1 this
      exact ⟨_, Array.getElem_mem hx, by simpa using hp⟩
    have h1 := hall ed hed hb.1
    rw [hb.2] at h1
    rw [getD_set_ne true (fun h => e h.symm)] at hli
    have : i < listed.size := by omega
    simp [this] at hli h1
    rw [hli] at h1
    cases h1

section
variable {P : Program} {ops ops' : Array Oper} {C : World → Prop}

theorem any_last {n : Nat} {o o' : Oper} {Q : Act → Prop} {Q' : Exit → Act → World → Prop} (hn : ops.size = n + 1) (hs : ops.size = ops'.size) (hon : ops[n]? = some o) (hon' : ops'[n]? = some o') (hd : o.dst = none) (hd' : o'.dst = none) (hg : o.guard = none) (hg' : o'.guard = none)
    (hsame : ∀ j, j ≠ n → ops[j]? = ops'[j]?) (hafter : o.after = o'.after) (hf : fwdB ops = true) (hl : lastB ops n = true)
    (htail : ∀ a w, C w → Q a → o.wp P a w (fun a' w' => Q' .normal a' w') Q') :
    ∀ (fuel : Nat) (listed : Array Bool) (a : Act) (w : World), listed.size = ops.size → listed.getD n true = false → C w → wpAnyQ P .any ops' C Q fuel listed a → wpAny P .any ops Q' fuel listed a w := by
  have hrc : ∀ listed, Region.ready .any ops listed = Region.ready .any ops' listed := fun listed => ready_congr hs (fun j => by
    by_cases e : j = n
    · subst e; rw [hon, hon']; simp [hafter]
    · rw [hsame j e]) listed
  have hyc : ∀ tmps, yielded ops tmps = yielded ops' tmps := yielded_congr (fun j => by
    by_cases e : j = n
    · subst e; rw [hon, hon']; simp [hd, hd']
    · rw [hsame j e])
  intro fuel
  induction fuel with
  | zero =>
    intro listed a w hsz hun hC h
    exact absurd ((hrc listed).trans h.1) (ready_ne hf hsz n (by omega) hun)
  | succ fuel ih =>
    intro listed a w hsz hun hC h
    refine ⟨fun h0 => absurd h0 (ready_ne hf hsz n (by omega) hun), fun i hi => ?_⟩
    have hi' : i ∈ Region.ready .any ops' listed := (hrc listed) ▸ hi
    have hq := h.2 i hi'
    by_cases e : i = n
    · subst e
      have hnil := all_listed hn hl hsz hi
      have hnil' := (hrc _).symm.trans hnil
      unfold qOp at hq
      simp only [hon'] at hq
      have hw' : Region.wanted o' (yielded ops' a.tmps) = true := by simp [Region.wanted, hg']
      rw [if_pos hw'] at hq
      obtain ⟨v, _, hnext⟩ := hq
      rw [hd'] at hnext
      have hQa : Q a := by
        cases fuel with
        | zero => exact hnext.2
        | succ f => exact hnext.1 hnil'
      unfold wpOp
      simp only [hon]
      have hw : Region.wanted o (yielded ops a.tmps) = true := by simp [Region.wanted, hg]
      rw [if_pos hw]
      refine .inl (Oper.wp_mono (fun a' w' hq' => ?_) (htail a w hC hQa))
      cases fuel with
      | zero => exact ⟨hnil, hq'⟩
      | succ f => exact ⟨fun _ => hq', fun j hj => by rw [hnil] at hj; cases hj⟩
    · have hq2 : qOp P ops C i (wpAnyQ P .any ops' C Q fuel (listed.setIfInBounds i true)) a := by
        unfold qOp at hq ⊢
        rw [hsame i e, hyc]
        exact hq
      refine wpOp_of_qOp hC (fun a' w' hC' hK => ih _ a' w' (by simpa using hsz) ?_ hC' hK) hq2
      rw [getD_set_ne true e]
      exact hun
end

/-- THE LAW: the last operation o stands behind a quiet head; in its place, for the walk, a move that does nothing. -/
theorem wp_region_last {P : Program} {id : Nat} {Q : Exit → Act → World → Prop} {a : Act} {w : World} {l : List Oper} {o : Oper} (hm : P.follows .mixedOrders = true)
    (hd : o.dst = none) (hg : o.guard = none) (hB : Region.lexB .any (l ++ [{ o with op := .move (.const undef) }]).toArray = true) (hf : fwdB (l ++ [o]).toArray = true) (hl : lastB (l ++ [o]).toArray l.length = true)
    (h : wpQuiet P (l ++ [{ o with op := .move (.const undef) }]).toArray (fun w' => ∃ n, w' = w.drewN n) (fun a' => ∀ w', (∃ n, w' = w.drewN n) → o.wp P a' w' (fun a2 w2 => Q .normal a2 w2) Q) (l ++ [{ o with op := .move (.const undef) }]) a) :
    (Code.region id (l ++ [o]).toArray true).wp P Q a w := by
  simp only [Region.lexB, Bool.and_eq_true] at hB
  refine wp_region_any hm (any_last (ops' := (l ++ [{ o with op := .move (.const undef) }]).toArray) (n := l.length) (o := o) (o' := { o with op := .move (.const undef) }) (C := fun w' => ∃ n, w' = w.drewN n) (Q := fun a' => ∀ w', (∃ n, w' = w.drewN n) → o.wp P a' w' (fun a2 w2 => Q .normal a2 w2) Q) (by simp) (by simp) (by simp) (by simp) hd hd hg hg (fun j hj => ?_) rfl hf hl (fun a' w' hC hq => hq w' hC) _ _ _ _ (by simp) (by simp) ⟨1, rfl⟩ ?_)
  · simp only [List.getElem?_toArray]
    by_cases hlt : j < l.length
    · rw [List.getElem?_append_left hlt, List.getElem?_append_left hlt]
    · rw [List.getElem?_eq_none (by simp; omega), List.getElem?_eq_none (by simp; omega)]
  · have := wpAnyQ_lex (C := fun w' => ∃ n, w' = w.drewN n) (md := .any) hB.1 (l ++ [{ o with op := .move (.const undef) }]) 0 (Array.replicate (l ++ [{ o with op := .move (.const undef) }]).toArray.size false) a (by simp) (by simpa using hB.2) h
    simpa using this

/-- The same for a region whose operations are written out: 'refine wp_region_last_lit n (by kernel_rfl) rfl rfl rfl (by kernel_rfl) (by kernel_rfl) (by kernel_rfl) ?_'. -/
theorem wp_region_last_lit {P : Program} {id : Nat} {Q : Exit → Act → World → Prop} {a : Act} {w : World} {L : List Oper} (n : Nat) {o : Oper} (hm : P.follows .mixedOrders = true) (hL : L = L.take n ++ [o])
    (hd : o.dst = none) (hg : o.guard = none) (hB : Region.lexB .any (L.take n ++ [{ o with op := .move (.const undef) }]).toArray = true) (hf : fwdB L.toArray = true) (hl : lastB L.toArray n = true) (hn : (L.take n).length = n)
    (h : wpQuiet P (L.take n ++ [{ o with op := .move (.const undef) }]).toArray (fun w' => ∃ n, w' = w.drewN n) (fun a' => ∀ w', (∃ n, w' = w.drewN n) → o.wp P a' w' (fun a2 w2 => Q .normal a2 w2) Q) (L.take n ++ [{ o with op := .move (.const undef) }]) a) :
    (Code.region id L.toArray true).wp P Q a w := by
  rw [hL]
  refine wp_region_last hm hd hg hB (by rw [← hL]; exact hf) (by rw [← hL, hn]; exact hl) h

end Go.Proofs.YticckgmkhgnmfaaDoor

/-
  The document's Distances: going over all arcs once a place.
-/
set_option linter.unusedVariables false
set_option linter.unusedSimpArgs false
namespace Go.Proofs.YticckgmkhgnmfaaDoor
open Go.RowKit Go.Maps
attribute [local go_sem ↓] Go.wp_at_zero Go.wp_at_succ

set_option maxRecDepth 100000 in
set_option maxHeartbeats 2000000 in
theorem l2Distances_any (p s : Nat) (ao : Option Addr) (n cap : Nat) (F T G : Nat → Int) (hp1 : 1 ≤ p) (hp2 : p ≤ 24) (hs : s < p) (hn : n ≤ 100) (hA : Arcs p n F T G) (w : World) (hr : Row w ao n F T G) :
    Calls Tryd.prog 80 #[.agg #[.int .i64 p, .slice ao n cap], .int .i64 s] w fun e w' => ∃ g cap', e = .returned (.slice (some ⟨g, 0, none⟩) p cap') ∧ w.heap.size ≤ g ∧ IHas w' g p (turns F T G n (start s) p) ∧ Below w.heap.size w w' := by
  have HA : Hid (Arcs p n F T G) := hA
  clear hA
  go_enter Tryd.func80, Tryd.ntmps80
  go_wp2
  go_loopw [5, 6] (fun d i wr => ∃ k g c : Nat, k ≤ p ∧ i = .int .i64 k ∧ d = .slice (some ⟨g, 0, none⟩) k c ∧ IOwn wr (w.heap.size + 1) g c k (fun _ => 1000000000000) ∧ Below (w.heap.size + 1) (w.alloc (.cells #[.int .i64 p, .slice ao n cap] 40)) wr) (fun _ i _ => p - (intOf i).toNat)
  case atStart => exact ⟨0, w.heap.size + 1, 0, Nat.zero_le _, rfl, rfl, by simpa using IOwn.empty (w.alloc (.cells #[.int .i64 p, .slice ao n cap] 40)) (base := w.heap.size + 1) (by simp) _, (Below.refl _ _).alloc (by simp) _⟩
  case round =>
    obtain ⟨k, g, c, hk, rfl, rfl, hown, hbel⟩ := hrel
    obtain ⟨g0, g1, hsz⟩ := box2 hbel
    have hgl := hown.lt
    have hgb := hown.base
    by_cases hlt : k < p
    · have hlt' : (k : Int) < (p : Int) := by omega
      go_wp2_with (at_builtin; refine wpList_append_int rfl _ _ rfl (w.heap.size + 1) g c k (fun _ => 1000000000000) rfl (by exact hown.below ((Below.refl _ _).alloc (Nat.le_refl _) _) (by omega)) ⟨wr.heap.size, 0, none⟩ 1 1000000000000 rfl (by simp [go_sem]) (by omega) (by simp; omega) ?_; intro g' c' w2 hown2 hgrow2 hat2)
      go_wp2
      go_roundw
      case rel => exact ⟨k + 1, g', c', by omega, by go_num, rfl, hown2 _ (fun _ _ => rfl) rfl, (hbel.alloc (by omega) _).grown hgrow2 (by simp; omega) (fun j hj => by cases hj; omega)⟩
      case measure => simp [intOf]; omega
    have hkp : k = p := by omega
    subst hkp
    have d0 := hown.has.cell hs
    have z0 := hown.has.frozen s
    have hs0 : (s : Int) < (k : Int) := by omega
    have R : IHas (wr.setCell ⟨g, s, none⟩ (.int .i64 0)) g k (start s) := (hown.has.set s 0).congr (fun j hj => by unfold start; rfl)
    have B := hbel.setCell (p := ⟨g, s, none⟩) hgb (.int .i64 0)
    clear hown
    go_wp2
    clear d0 z0 g0 g1
    go_loopw [7] (fun x wr2 => ∃ t : Nat, t ≤ k ∧ x = .int .i64 t ∧ IHas wr2 g k (turns F T G n (start s) t) ∧ Below (w.heap.size + 1) (w.alloc (.cells #[.int .i64 k, .slice ao n cap] 40)) wr2) (fun x _ => k - (intOf x).toNat)
    case atStart => exact ⟨0, Nat.zero_le _, rfl, R, B⟩
    case round =>
      obtain ⟨t, ht, rfl, hI, hB⟩ := hrel
      clear R B
      obtain ⟨g0, g1, hsz2⟩ := box2 hB
      by_cases hlt2 : t < k
      rotate_left
      · have htk : t = k := by omega
        subst htk
        go_wp2
        go_ret
        exact ⟨g, c, rfl, by omega, hI, unbox hB (by omega)⟩
      have hlt2' : (t : Int) < (k : Int) := by omega
      go_wp2
      go_loopw [8] (fun x wr3 => ∃ j : Nat, j ≤ n ∧ x = .int .i64 j ∧ IHas wr3 g k (turnTo F T G (turns F T G n (start s) t) j) ∧ Below (w.heap.size + 1) (w.alloc (.cells #[.int .i64 k, .slice ao n cap] 40)) wr3) (fun x _ => n - (intOf x).toNat)
      case atStart => exact ⟨0, Nat.zero_le _, rfl, hI, hB⟩
      case round =>
        obtain ⟨j, hj, rfl, hI3, hB3⟩ := hrel
        clear hI hB g0 g1
        obtain ⟨g0, g1, hsz3⟩ := box2 hB3
        by_cases hlt3 : j < n
        rotate_left
        · have hjn : j = n := by omega
          subst hjn
          go_wp2
          go_roundw
          case rel => exact ⟨t + 1, by omega, by go_num, hI3, hB3⟩
          case measure => simp [intOf]; omega
        obtain ⟨ab, aoff, hao, e0, e1, e2⟩ := ((hr.alloc _).below hB3 (by simp)) j hlt3
        subst hao
        have ha := HA.out j hlt3
        obtain ⟨tF, hF⟩ : ∃ tF : Nat, F j = (tF : Int) := ⟨(F j).toNat, by omega⟩
        obtain ⟨tT, hT⟩ : ∃ tT : Nat, T j = (tT : Int) := ⟨(T j).toNat, by omega⟩
        have l1 : tF < k := by omega
        have l2 : tT < k := by omega
        have x1 : (tF : Int) < (k : Int) := by omega
        have x2 : (tT : Int) < (k : Int) := by omega
        have w0 := hI3.cell l1
        have w1 := hI3.cell l2
        have z1 := hI3.frozen tT
        have b1 := hI3.frozen tF
        have PK : Hid (IHas wr g k (turnTo F T G (turns F T G n (start s) t) j) ∧ Below (w.heap.size + 1) (w.alloc (.cells #[.int .i64 k, .slice (some ⟨ab, aoff, none⟩) n cap] 40)) wr) := ⟨hI3, hB3⟩
        have hgl3 := hI3.lt
        have v0 : 0 ≤ turnTo F T G (turns F T G n (start s) t) j tF ∧ turnTo F T G (turns F T G n (start s) t) j tF ≤ 1000000000000 := mid_in HA.out s t j (by omega) tF
        have v1 : 0 ≤ G j ∧ G j ≤ 1000000000000 := by omega
        clear hI3 hB3 hr ha hbel hk hlt
        go_wp2
        refine wp_region_last_lit 18 (by kernel_rfl) (by rfl) (by rfl) (by rfl) (by kernel_rfl) (by kernel_rfl) (by kernel_rfl) (by rfl) ?_
        simp only [List.take_succ_cons, List.take_zero, List.cons_append, List.nil_append]
        repeat (go_big_quiet_step (first | exact Calls.quiet_of_same (l1Add_any _ _ v0.1 v0.2 v1.1 v1.2 _) | exact Calls.quiet_of_same (l1Min_any _ _ _)))
        refine wpQuiet_nil ?_
        intro w7 hw7
        obtain ⟨nq, rfl⟩ := hw7
        obtain ⟨hI3, hB3⟩ := PK.out
        have al := (Below.refl wr.heap.size wr).alloc (Nat.le_refl _) (.cells #[.int .i64 (tF : Int), .int .i64 (tT : Int), .int .i64 (G j)] 82)
        have hI6 := hI3.below al hI3.lt
        have hI7 := hI6.below (below_drewN (Below.refl _ _) nq) hI6.lt
        have hB7 := below_drewN (hB3.trans (al.mono (by omega))) nq
        clear PK hI3 hB3 al hI6 w0 w1 z1 b1 e0 e1 e2 g0 g1
        generalize (wr.alloc (.cells #[.int .i64 (tF : Int), .int .i64 (tT : Int), .int .i64 (G j)] 82)).drewN nq = W7 at hI7 hB7 ⊢
        have s0 := hI7.cell l2
        have s1 := hI7.frozen tT
        have R : IHas (W7.setCell ⟨g, tT, none⟩ (.int .i64 (min (turnTo F T G (turns F T G n (start s) t) j tT) (min 1000000000000 (turnTo F T G (turns F T G n (start s) t) j tF + G j))))) g k (turnTo F T G (turns F T G n (start s) t) (j + 1)) := (hI7.set tT _).congr (fun i hi => by
          have h1 : (T j).toNat = tT := by omega
          have h2 : (F j).toNat = tF := by omega
          show _ = relax F T G (turnTo F T G (turns F T G n (start s) t) j) j i
          unfold relax up1
          rw [h1, h2])
        have B := hB7.setCell (p := ⟨g, tT, none⟩) hgb (.int .i64 (min (turnTo F T G (turns F T G n (start s) t) j tT) (min 1000000000000 (turnTo F T G (turns F T G n (start s) t) j tF + G j))))
        clear hI7 hB7
        go_simp
        go_wp2
        go_roundw
        case rel => exact ⟨j + 1, by omega, by go_num, R, B⟩
        case measure => simp [intOf]; omega

end Go.Proofs.YticckgmkhgnmfaaDoor

/-
  A list of numbers that is answered, in new memory.
-/
set_option linter.unusedVariables false
set_option linter.unusedSimpArgs false
namespace Go.Proofs.YticckgmkhgnmfaaDoor
open Go.RowKit

/-- A list that is answered: of the call's own. -/
def Ans (w w' : World) (e : Ending) (m : Nat) (D : Nat → Int) : Prop := ∃ ao cap, e = .returned (.slice ao m cap) ∧ (0 < m → ∃ g, ao = some ⟨g, 0, none⟩ ∧ w.heap.size ≤ g ∧ IHas w' g m D) ∧ Below w.heap.size w w'

theorem ans_of {w w' : World} {e : Ending} {m m' : Nat} {D : Nat → Int} (h : m = m') (H : Ans w w' e m' D) : Ans w w' e m D := by rw [h]; exact H

end Go.Proofs.YticckgmkhgnmfaaDoor

/-
  Distances, the document's, at every map and every start.
-/
set_option linter.unusedVariables false
set_option linter.unusedSimpArgs false
namespace Go.Proofs.YticckgmkhgnmfaaDoor
open Go.RowKit Go.Maps
attribute [local go_sem ↓] Go.wp_at_zero Go.wp_at_succ

def okD (p : Int) (n : Nat) (F T G : Nat → Int) (s : Int) : Bool := graphB p n F T G && inB s 0 (p - 1)
def lenD (p : Int) (n : Nat) (F T G : Nat → Int) (s : Int) : Nat := if okD p n F T G s then p.toNat else 0
def listD (p : Int) (n : Nat) (F T G : Nat → Int) (s : Int) : Nat → Int := turns F T G n (start s.toNat) p.toNat
theorem lenD_le (p : Int) (n : Nat) (F T G : Nat → Int) (s : Int) : lenD p n F T G s ≤ 24 := by
  unfold lenD
  split
  · next h =>
    simp [okD] at h
    have := graphB_p h.1
    simp [inB] at this
    omega
  · omega
theorem arcs_of {pn n : Nat} {F T G : Nat → Int} (h : arcsB (pn : Int) F T G n = true) : Arcs pn n F T G := fun k hk => by
  have := (arcsB_each n h k hk).1
  simp [arcB, inB] at this
  omega
set_option maxHeartbeats 1000000 in
theorem specDistances_any (p : Int) (ao : Option Addr) (n cap : Nat) (F T G : Nat → Int) (s : Int) (hn : n ≤ 1048576) (w : World) (hr : Row w ao n F T G) :
    Calls Tryd.prog 58 #[.agg #[.int .i64 p, .slice ao n cap], .int .i64 s] w fun e w' => Ans w w' e (lenD p n F T G s) (listD p n F T G s) := by
  rcases Bool.eq_false_or_eq_true (graphB p n F T G) with h | h
  rotate_left
  · have hL : lenD p n F T G s = 0 := by simp [lenD, okD, h]
    rw [hL]
    go_enter Tryd.func58, Tryd.ntmps58
    go_wp2_with (go_at_call 32; refine (specGraphOk_any p ao n cap F T G hn _ (hr.alloc _)).mono ?_; rintro e w1 ⟨rfl, hb1⟩)
    go_ret
    exact ⟨_, _, rfl, fun h => by omega, unbox (hb1.alloc (by have := hb1.size; omega) _) (by simp)⟩
  have hpp : 1 ≤ p ∧ p ≤ 24 := by simpa [inB] using graphB_p h
  obtain ⟨hp1, hp2⟩ := hpp
  rcases Bool.eq_false_or_eq_true (inB s 0 (p - 1)) with h2 | h2
  rotate_left
  · have hL : lenD p n F T G s = 0 := by simp [lenD, okD, h2]
    rw [hL]
    go_enter Tryd.func58, Tryd.ntmps58
    go_wp2_with (first | (go_at_call 32; refine (specGraphOk_any p ao n cap F T G hn _ (hr.alloc _)).mono ?_; rintro e w1 ⟨rfl, hb1⟩; obtain ⟨hc, hf⟩ := bcell hb1) | (go_at_call 21; refine (l1In_any _ _ _ _).mono ?_; rintro e wq ⟨rfl, hq⟩; have hq' := hq.symm; subst hq'; clear hq))
    go_ret
    exact ⟨_, _, rfl, fun h => by omega, unbox (hb1.alloc (by have := hb1.size; omega) _) (by simp)⟩
  have hs0 : 0 ≤ s ∧ s ≤ p - 1 := by simpa [inB] using h2
  obtain ⟨pn, rfl⟩ : ∃ pn : Nat, p = (pn : Int) := ⟨p.toNat, by omega⟩
  obtain ⟨sn, rfl⟩ : ∃ sn : Nat, s = (sn : Int) := ⟨s.toNat, by omega⟩
  have hL : lenD pn n F T G sn = pn := by simp [lenD, okD, h, h2]
  have hD : listD pn n F T G sn = turns F T G n (start sn) pn := by simp [listD]
  rw [hL, hD]
  have harc := arcs_of (graphB_arcs h).2
  have hn1 := (graphB_arcs h).1
  clear hL hD
  go_enter Tryd.func58, Tryd.ntmps58
  go_wp2_with (first | (go_at_call 32; refine (specGraphOk_any pn ao n cap F T G hn _ (hr.alloc _)).mono ?_; rintro e w1 ⟨rfl, hb1⟩; obtain ⟨hc, hf⟩ := bcell hb1) | (go_at_call 21; refine (l1In_any _ _ _ _).mono ?_; rintro e wq ⟨rfl, hq⟩; have hq' := hq.symm; subst hq'; clear hq) | (go_at_call 80; refine (l2Distances_any pn sn ao n cap F T G (by omega) (by omega) (by omega) hn1 harc _ ((hr.alloc _).below hb1 (Nat.le_refl _))).mono ?_; rintro e w2 ⟨g, c, rfl, hg, hI, hb2⟩))
  go_ret
  exact ⟨_, _, rfl, fun _ => ⟨g, rfl, by have := hb1.size; simp at this; omega, hI⟩, unbox (below_next hb1 (Nat.le_refl _) hb2) (by simp)⟩

end Go.Proofs.YticckgmkhgnmfaaDoor

/-
  The program's heap of places that wait, as memory: pairs of numbers in a block of the call's own, swapped, added, taken. In which order they lie is not looked at.
-/
set_option linter.unusedVariables false
set_option linter.unusedSimpArgs false
namespace Go.Proofs.YticckgmkhgnmfaaDoor
open Go.RowKit Go.Maps
attribute [local go_sem ↓] Go.wp_at_zero Go.wp_at_succ

/-- Cell j of pairs that lie one behind the other. -/
def pr (E : Nat → Int × Int) (j : Nat) : Int := if j % 2 = 0 then (E (j / 2)).1 else (E (j / 2)).2
theorem pr0 (E : Nat → Int × Int) (k : Nat) : pr E (k * 2) = (E k).1 := by
  unfold pr; rw [if_pos (by omega)]; congr 2; omega
theorem pr1 (E : Nat → Int × Int) (k : Nat) : pr E (k * 2 + 1) = (E k).2 := by
  unfold pr; rw [if_neg (by omega)]; congr 2; omega

/-- Block g has room for cap pairs, which may be written, and begins with n of them. -/
def PRow (w : World) (g cap n : Nat) (E : Nat → Int × Int) : Prop :=
  ∃ cur : Array Value, w.heap[g]? = some (.cells cur 127 (0, 0)) ∧ cur.size = cap * 2 ∧ n ≤ cap ∧ cap ≤ maxLen ∧ ∀ j, j < n * 2 → cur[j]? = some (.int .i64 (pr E j))
theorem PRow.cell {w : World} {g cap n : Nat} {E : Nat → Int × Int} (h : PRow w g cap n E) {j : Nat} (hj : j < n * 2) : w.cell? ⟨g, j, none⟩ = some (.int .i64 (pr E j)) := by
  obtain ⟨c, hb, _, _, _, hc⟩ := h
  simp [World.cell?, hb, hc j hj]
theorem PRow.cells {w : World} {g cap n : Nat} {E : Nat → Int × Int} (h : PRow w g cap n E) {k : Nat} (hk : k < n) : w.cell? ⟨g, k * 2, none⟩ = some (.int .i64 (E k).1) ∧ w.cell? ⟨g, k * 2 + 1, none⟩ = some (.int .i64 (E k).2) := by
  have h0 := h.cell (j := k * 2) (by omega)
  have h1 := h.cell (j := k * 2 + 1) (by omega)
  rw [pr0] at h0
  rw [pr1] at h1
  exact ⟨h0, h1⟩
theorem PRow.frozen {w : World} {g cap n : Nat} {E : Nat → Int × Int} (h : PRow w g cap n E) (j : Nat) : w.frozen? ⟨g, j, none⟩ = false := by
  obtain ⟨c, hb, _⟩ := h
  simp [World.frozen?, hb]
theorem PRow.lt {w : World} {g cap n : Nat} {E : Nat → Int × Int} (h : PRow w g cap n E) : g < w.heap.size := by
  obtain ⟨c, hb, _⟩ := h
  exact (Array.getElem?_eq_some_iff.1 hb).1
theorem PRow.of_block {w w' : World} {g cap n : Nat} {E : Nat → Int × Int} (h : PRow w g cap n E) (e : w'.heap[g]? = w.heap[g]?) : PRow w' g cap n E := by
  obtain ⟨c, hb, h1⟩ := h
  exact ⟨c, e.trans hb, h1⟩
theorem PRow.congr {w : World} {g cap n : Nat} {E E' : Nat → Int × Int} (h : PRow w g cap n E) (e : ∀ j, j < n * 2 → pr E j = pr E' j) : PRow w g cap n E' := by
  obtain ⟨c, hb, h1, h2, h3, hc⟩ := h
  exact ⟨c, hb, h1, h2, h3, fun j hj => by rw [hc j hj, e j hj]⟩
theorem PRow.less {w : World} {g cap n m : Nat} {E : Nat → Int × Int} (h : PRow w g cap n E) (hm : m ≤ n) : PRow w g cap m E := by
  obtain ⟨c, hb, h1, h2, h3, hc⟩ := h
  exact ⟨c, hb, h1, by omega, h3, fun j hj => hc j (by omega)⟩

def upP (E : Nat → Int × Int) (k : Nat) (v : Int × Int) : Nat → Int × Int := fun j => if j = k then v else E j
def swp (E : Nat → Int × Int) (i k : Nat) : Nat → Int × Int := upP (upP E i (E k)) k (E i)

/-- A pair is stored. -/
theorem PRow.put2 {w : World} {g cap n : Nat} {E : Nat → Int × Int} (h : PRow w g cap n E) {k : Nat} (hk : k < n) (x y : Int) :
    PRow ((w.setCell ⟨g, k * 2, none⟩ (.int .i64 x)).setCell ⟨g, k * 2 + 1, none⟩ (.int .i64 y)) g cap n (upP E k (x, y)) := by
  obtain ⟨c, hb, h1, h2, h3, hc⟩ := h
  have e1 : (w.setCell ⟨g, k * 2, none⟩ (.int .i64 x)).heap[g]? = some (.cells (c.setIfInBounds (k * 2) (.int .i64 x)) 127 (0, 0)) := by simp [World.setCell, Array.getElem?_modify, hb]
  refine ⟨(c.setIfInBounds (k * 2) (.int .i64 x)).setIfInBounds (k * 2 + 1) (.int .i64 y), ?_, by simpa using h1, h2, h3, fun j hj => ?_⟩
  · generalize w.setCell ⟨g, k * 2, none⟩ (.int .i64 x) = w1 at e1 ⊢
    simp [World.setCell, Array.getElem?_modify, e1]
  · rw [Array.getElem?_setIfInBounds, Array.getElem?_setIfInBounds]
    by_cases ea : j = k * 2 + 1
    · subst ea
      rw [if_pos rfl, pr1]
      simp [upP]; omega
    rw [if_neg (fun h => ea h.symm)]
    by_cases eb : j = k * 2
    · subst eb
      rw [if_pos rfl, pr0]
      simp [upP]; omega
    rw [if_neg (fun h => eb h.symm), hc j hj]
    have hne : j / 2 ≠ k := by omega
    simp [pr, upP, hne]

theorem mem_swp {E : Nat → Int × Int} {n i k : Nat} (hi : i < n) (hk : k < n) (x : Int × Int) : Mem (swp E i k) n x ↔ Mem E n x := by
  constructor
  · rintro ⟨j, hj, e⟩
    unfold swp upP at e
    split at e
    · exact ⟨i, hi, e⟩
    · split at e
      · exact ⟨k, hk, e⟩
      · exact ⟨j, hj, e⟩
  · rintro ⟨j, hj, e⟩
    by_cases h1 : j = i
    · subst h1; exact ⟨k, hk, by simp [swp, upP, e]⟩
    by_cases h2 : j = k
    · subst h2
      refine ⟨i, hi, ?_⟩
      have h1' : i ≠ j := fun h => h1 h.symm
      simp [swp, upP, h1', e]
    · exact ⟨j, hj, by simp [swp, upP, h1, h2, e]⟩

/-- The heap's one word, and the pairs behind it. -/
def HList (w : World) (hb g cap n : Nat) (E : Nat → Int × Int) : Prop :=
  w.heap[hb]? = some (.cells #[.slice (some ⟨g, 0, none⟩) n cap] 124 (0, 0)) ∧ PRow w g cap n E ∧ hb < g
theorem HList.word {w : World} {hb g cap n : Nat} {E : Nat → Int × Int} (h : HList w hb g cap n E) : w.cell? ⟨hb, 0, none⟩ = some (.slice (some ⟨g, 0, none⟩) n cap) := by
  simp [World.cell?, h.1]
theorem HList.wfree {w : World} {hb g cap n : Nat} {E : Nat → Int × Int} (h : HList w hb g cap n E) : w.frozen? ⟨hb, 0, none⟩ = false := by
  simp [World.frozen?, h.1]
theorem HList.below {w w' : World} {hb g cap n B : Nat} {E : Nat → Int × Int} (h : HList w hb g cap n E) (hB : Below B w w') (hl : w.heap.size ≤ B) : HList w' hb g cap n E :=
  ⟨(hB.block hb (by have := h.2.1.lt; have := h.2.2; omega)).trans h.1, h.2.1.of_block (hB.block g (by have := h.2.1.lt; omega)), h.2.2⟩

theorem HList.put2 {w : World} {hb g cap n : Nat} {E : Nat → Int × Int} (h : HList w hb g cap n E) {k : Nat} (hk : k < n) (x y : Int) :
    HList ((w.setCell ⟨g, k * 2, none⟩ (.int .i64 x)).setCell ⟨g, k * 2 + 1, none⟩ (.int .i64 y)) hb g cap n (upP E k (x, y)) := by
  refine ⟨?_, h.2.1.put2 hk x y, h.2.2⟩
  have hne : hb ≠ g := by have := h.2.2; omega
  rw [Below.heap_setCell _ _ _ _ hne, Below.heap_setCell _ _ _ _ hne]
  exact h.1
theorem HList.drew1 {w : World} {hb g cap n : Nat} {E : Nat → Int × Int} (h : HList w hb g cap n E) : HList w.drew hb g cap n E :=
  h.below (Below.refl _ w).drew (Nat.le_refl _)
theorem HList.drewN {w : World} {hb g cap n : Nat} {E : Nat → Int × Int} (h : HList w hb g cap n E) (m : Nat) : HList (w.drewN m) hb g cap n E :=
  h.below (below_drewN (Below.refl _ w) m) (Nat.le_refl _)

theorem ahead_any (a b c d : Int) (w : World) :
    Calls Tryd.prog 130 #[.agg #[.int .i64 a, .int .i64 b], .agg #[.int .i64 c, .int .i64 d]] w fun e w' => e = .returned (.bool (decide (b < d))) ∧ Below w.heap.size w w' := by
  go_enter Tryd.func130, Tryd.ntmps130
  go_wp2
  go_ret
  exact ⟨rfl, ((Below.refl _ _).alloc (Nat.le_refl _) _).alloc (by simp) _⟩

theorem ahead_at (a b : Int) (w : World) : Sem.run Tryd.prog (method 326 127 (.agg #[.int .i64 a, .int .i64 b]) "loop.example/g00161/impl.aheadOf") w = .ok (130, .agg #[.int .i64 a, .int .i64 b]) w := by
  kernel_rfl
theorem ahead_enters (args : Array Value) (w : World) : Sem.run Tryd.prog (callFunc 130 args) w = .ok (.enter 130 args) w := by
  kernel_rfl

/-- The cells of n pairs, one behind the other. -/
def pcells (E : Nat → Int × Int) (n : Nat) : List Value := (List.range (n * 2)).map fun j => .int .i64 (pr E j)
theorem pcells_at {E : Nat → Int × Int} {n j : Nat} (hj : j < n * 2) : (pcells E n)[j]? = some (.int .i64 (pr E j)) := by
  rw [pcells, List.getElem?_map, List.getElem?_range hj]; rfl
theorem pcells_len (E : Nat → Int × Int) (n : Nat) : (pcells E n).length = n * 2 := by simp [pcells]
theorem pcells_put (E : Nat → Int × Int) (n : Nat) (q s : Int) : pcells E n ++ [.int .i64 q, .int .i64 s] = pcells (upP E n (q, s)) (n + 1) := by
  apply List.ext_getElem?
  intro j
  by_cases h1 : j < n * 2
  · rw [List.getElem?_append_left (by rw [pcells_len]; exact h1), pcells_at h1, pcells_at (by omega)]
    have hne : j / 2 ≠ n := by omega
    simp [pr, upP, hne]
  by_cases h2 : j = n * 2
  · subst h2
    rw [List.getElem?_append_right (by rw [pcells_len]; omega), pcells_len, pcells_at (by omega), pr0]
    simp [upP]
  by_cases h3 : j = n * 2 + 1
  · subst h3
    rw [List.getElem?_append_right (by rw [pcells_len]; omega), pcells_len, pcells_at (by omega), pr1]
    simp [upP]
  · rw [List.getElem?_eq_none (by simp [pcells_len]; omega), List.getElem?_eq_none (by simp [pcells_len]; omega)]
theorem prow_of_owns {w : World} {base n : Nat} {v : Value} {E : Nat → Int × Int} (h : w.ownsRow base 127 2 v n (pcells E n)) (hv : v ≠ .slice none 0 0) : ∃ g cap, v = .slice (some ⟨g, 0, none⟩) n cap ∧ base ≤ g ∧ PRow w g cap n E := by
  obtain ⟨hl, h0 | ⟨g, cap, cur, rfl, hb, hh, h1, h2, h3, h4⟩⟩ := h
  · exact absurd h0.1 hv
  · refine ⟨g, cap, rfl, hb, cur, hh, h3, h1, h2, fun j hj => ?_⟩
    have : (cur.toList.take (n * 2))[j]? = (pcells E n)[j]? := by rw [h4]
    rw [List.getElem?_take_of_lt hj, pcells_at hj] at this
    simpa using this
theorem owns_of_prow {w : World} {base g cap n : Nat} {E : Nat → Int × Int} (h : PRow w g cap n E) (hb : base ≤ g) : w.ownsRow base 127 2 (.slice (some ⟨g, 0, none⟩) n cap) n (pcells E n) := by
  obtain ⟨cur, hh, h3, h1, h2, hc⟩ := h
  refine ⟨pcells_len E n, .inr ⟨g, cap, cur, rfl, hb, hh, h1, h2, h3, ?_⟩⟩
  apply List.ext_getElem?
  intro j
  by_cases hj : j < n * 2
  · rw [List.getElem?_take_of_lt hj, pcells_at hj]
    simpa using hc j hj
  · rw [List.getElem?_eq_none (by simp; omega), List.getElem?_eq_none (by rw [pcells_len]; omega)]

/-- The heap's one word, with whatever list behind it: none yet, or one of the call's own. -/
def Heap0 (w : World) (hb : Nat) (v : Value) (n : Nat) (E : Nat → Int × Int) : Prop :=
  w.heap[hb]? = some (.cells #[v] 124 (0, 0)) ∧ w.ownsRow (hb + 1) 127 2 v n (pcells E n)
theorem HList.heap0 {w : World} {hb g cap n : Nat} {E : Nat → Int × Int} (h : HList w hb g cap n E) : Heap0 w hb (.slice (some ⟨g, 0, none⟩) n cap) n E := ⟨h.1, owns_of_prow h.2.1 h.2.2⟩
theorem Heap0.word {w : World} {hb n : Nat} {v : Value} {E : Nat → Int × Int} (h : Heap0 w hb v n E) : w.cell? ⟨hb, 0, none⟩ = some v := by simp [World.cell?, h.1]
theorem Heap0.wfree {w : World} {hb n : Nat} {v : Value} {E : Nat → Int × Int} (h : Heap0 w hb v n E) : w.frozen? ⟨hb, 0, none⟩ = false := by simp [World.frozen?, h.1]

theorem Tryd.infoWait : (Tryd.prog.info? 127).map (fun i => (i.zero, i.size, i.bytes)) = some (some (.agg #[.int .i64 0, .int .i64 0]), 2, 16) := by kernel_rfl

/-- All that was there stays, but the heap's word and one block. -/
structure Stays (w w' : World) (hb : Nat) (ob : Option Nat) : Prop where
  os : w'.os = w.os
  tape : w'.tape = w.tape
  output : w'.output = w.output
  size : w.heap.size ≤ w'.heap.size
  block : ∀ k, k < w.heap.size → k ≠ hb → some k ≠ ob → w'.heap[k]? = w.heap[k]?
theorem Stays.refl (w : World) (hb : Nat) (ob : Option Nat) : Stays w w hb ob := ⟨rfl, rfl, rfl, Nat.le_refl _, fun _ _ _ _ => rfl⟩
theorem Stays.of_below {w w' : World} {hb : Nat} {ob : Option Nat} (h : Below w.heap.size w w') : Stays w w' hb ob := ⟨h.os, h.tape, h.output, h.size, fun k hk _ _ => h.block k hk⟩
theorem Stays.trans {w w1 w2 : World} {hb : Nat} {ob : Option Nat} (h : Stays w w1 hb ob) (k : Stays w1 w2 hb ob) : Stays w w2 hb ob :=
  ⟨k.os.trans h.os, k.tape.trans h.tape, k.output.trans h.output, Nat.le_trans h.size k.size, fun j hj h1 h2 => (k.block j (Nat.lt_of_lt_of_le hj h.size) h1 h2).trans (h.block j hj h1 h2)⟩
theorem Stays.next {w w1 w2 : World} {hb : Nat} {ob : Option Nat} (h : Stays w w1 hb ob) (k : Below w1.heap.size w1 w2) : Stays w w2 hb ob := h.trans (Stays.of_below k)
theorem Stays.drew1 {w w1 : World} {hb : Nat} {ob : Option Nat} (h : Stays w w1 hb ob) : Stays w w1.drew hb ob := h.next (Below.refl _ w1).drew
theorem Stays.drewN {w w1 : World} {hb : Nat} {ob : Option Nat} (h : Stays w w1 hb ob) (m : Nat) : Stays w (w1.drewN m) hb ob := h.next (below_drewN (Below.refl _ w1) m)
theorem Stays.setG {w w1 : World} {hb g : Nat} {ob : Option Nat} (h : Stays w w1 hb ob) (o : Nat) (hg : w.heap.size ≤ g ∨ some g = ob) (v : Value) : Stays w (w1.setCell ⟨g, o, none⟩ v) hb ob :=
  ⟨h.os, h.tape, h.output, by have := h.size; simpa [World.setCell] using this, fun k hk h1 h2 => (Below.heap_setCell _ _ _ _ (fun e => by
    rcases hg with hg | hg
    · simp at e; omega
    · simp at e; subst e; exact h2 hg)).trans (h.block k hk h1 h2)⟩
theorem Stays.setH {w w1 : World} {hb : Nat} {ob : Option Nat} (h : Stays w w1 hb ob) (o : Nat) (v : Value) : Stays w (w1.setCell ⟨hb, o, none⟩ v) hb ob :=
  ⟨h.os, h.tape, h.output, by have := h.size; simpa [World.setCell] using this, fun k hk h1 h2 => (Below.heap_setCell _ _ _ _ (fun e => h1 (by simpa using e))).trans (h.block k hk h1 h2)⟩
theorem Stays.below {w w1 : World} {hb : Nat} {ob : Option Nat} (h : Stays w w1 hb ob) (hl : hb ≤ w.heap.size) (ho : ∀ k, ob = some k → hb ≤ k) : Below hb w w1 :=
  ⟨h.os, h.tape, h.output, h.size, fun k hk => h.block k (by omega) (by omega) (fun e => by have := ho k e.symm; omega)⟩
theorem Stays.cell {w w1 : World} {hb b o : Nat} {ob : Option Nat} {v : Value} (h : Stays w w1 hb ob) (h1 : b ≠ hb) (h2 : some b ≠ ob) (hc : w.cell? ⟨b, o, none⟩ = some v) : w1.cell? ⟨b, o, none⟩ = some v :=
  (World.cell?_of_block (h.block b (lt_of_cell hc) h1 h2)).trans hc

/-- At a step of a region that draws its order: one pair more. -/
theorem step_append_pair {ops : Array Oper} {o : Oper} {a : Act} {w : World} {K : Act → World → Prop} {Q : Exit → Act → World → Prop} {X : Prop} (hgd : o.guard = none) (x y : Operand)
    (ho : o.op = .call { callee := .builtin .append, args := #[x, y], argTypes := #[122, 122] }) (hb n : Nat) (v : Value) (E : Nat → Int × Int) (hx : a.eval x = v)
    (hown : w.ownsRow (hb + 1) 127 2 v n (pcells E n)) (ad : Addr) (c : Nat) (q s : Int) (hy : a.eval y = .slice (some ad) 1 c)
    (h0 : w.cell? (ad.add 0) = some (.int .i64 q)) (h1 : w.cell? (ad.add 1) = some (.int .i64 s)) (hn : n ≤ 1000000000) (hbase : hb + 1 ≤ w.heap.size)
    (hK : ∀ g cap w', PRow w' g cap (n + 1) (upP E n (q, s)) → hb < g → w'.heap[hb]? = w.heap[hb]? → w'.cell? ⟨hb, 0, none⟩ = w.cell? ⟨hb, 0, none⟩ → w'.frozen? ⟨hb, 0, none⟩ = w.frozen? ⟨hb, 0, none⟩ → Stays w w' hb v.ownBlock → (w.heap.size ≤ g ∨ some g = v.ownBlock) → K (a.put o.dst (.slice (some ⟨g, 0, none⟩) (n + 1) cap)) w') :
    if Region.wanted o (yielded ops a.tmps) = true then Oper.wp Tryd.prog o a w K Q else X := by
  have hw : Region.wanted o (yielded ops a.tmps) = true := by simp [Region.wanted, hgd]
  rw [if_pos hw]
  obtain ⟨i, hi, hz0, hz1, hz2⟩ := info_parts Tryd.infoWait
  refine wp_append_lies w x y 122 ho (hb + 1) 127 i _ 2 16 Tryd.underlying122 hi hz0 hz1 hz2 rfl (by omega) v n (pcells E n) hx hown ad 1 c [.int .i64 q, .int .i64 s] hy rfl ?_ ?_ (by omega) (by unfold maxLen; omega) (by omega) hbase w.heap.size rfl ?_
  · intro j u hu
    match j, hu with
    | 0, hu => simp at hu; subst hu; exact h0
    | 1, hu => simp at hu; subst hu; exact h1
    | j + 2, hu => simp at hu
  · intro u hu
    simp at hu
    rcases hu with rfl | rfl <;> rfl
  · intro g cap w' hown' hgrow hat hlt
    rw [pcells_put] at hown'
    obtain ⟨g', cap', he, hg, hp⟩ := prow_of_owns hown' (fun e => by simp at e)
    simp at he
    obtain ⟨rfl, rfl⟩ := he
    have hvb : some hb ≠ v.ownBlock := fun e => by have := (hown.lt hb e.symm).1; omega
    have hblk := hgrow.block hb (by omega) hvb
    refine hK g cap w' hp (by omega) hblk (World.cell?_of_block hblk) (World.frozen?_of_block hblk) ⟨hgrow.os, hgrow.tape, hgrow.output, hgrow.size, fun k hk _ h2 => hgrow.block k hk h2⟩ ?_
    rcases hat with e | e
    · exact Or.inr e.symm
    · exact Or.inl (by omega)

end Go.Proofs.YticckgmkhgnmfaaDoor
