/-
  Helpers: Dist, Add, DistSpec, DistD.
-/
import Derived.Test.YthmpliljffmmcaaGreatDoorPack1
import Derived.Test.YthmpliljffmmcaaGreatDoorPack5
import Derived.Test.YthmpliljffmmcaaGreatDoorPack3
set_option linter.unusedVariables false
set_option linter.unusedSimpArgs false
namespace Go.Proofs.YthmpliljffmmcaaGreatDoor
section
def up1 (d : Nat → Int) (v : Nat) (x : Int) : Nat → Int := fun j => if j = v then x else d j
theorem up1_same (d : Nat → Int) (v : Nat) (x : Int) : up1 d v x v = x := by simp [up1]
theorem up1_other (d : Nat → Int) {v j : Nat} (x : Int) (h : j ≠ v) : up1 d v x j = d j := by simp [up1, h]
def sumTo (f : Nat → Int) : Nat → Int
  | 0 => 0
  | n + 1 => sumTo f n + f n
theorem sumTo_congr {f g : Nat → Int} : ∀ n, (∀ v, v < n → f v = g v) → sumTo f n = sumTo g n
  | 0, _ => rfl
  | n + 1, h => by simp only [sumTo]; rw [sumTo_congr n (fun v hv => h v (by omega)), h n (by omega)]
theorem sumTo_le {f g : Nat → Int} : ∀ n, (∀ v, v < n → f v ≤ g v) → sumTo f n ≤ sumTo g n
  | 0, _ => Int.le_refl _
  | n + 1, h => by
    simp only [sumTo]
    have := sumTo_le n (fun v hv => h v (by omega))
    have := h n (by omega)
    omega
theorem sumTo_at {f g : Nat → Int} {v : Nat} (he : ∀ j, j ≠ v → f j = g j) : ∀ n, v < n → sumTo f n = sumTo g n - g v + f v
  | 0, h => by omega
  | n + 1, h => by
    simp only [sumTo]
    by_cases e : v = n
    · subst e
      rw [sumTo_congr v (fun j hj => he j (by omega))]; omega
    · rw [sumTo_at he n (by omega), he n (by omega)]; omega
theorem sumTo_const (c : Int) : ∀ n : Nat, sumTo (fun _ => c) n = c * n
  | 0 => by simp [sumTo]
  | n + 1 => by simp only [sumTo]; rw [sumTo_const c n]; push_cast; rw [Int.mul_add]; omega
def Arcs (p n : Nat) (F T G : Nat → Int) : Prop := ∀ k, k < n → 0 ≤ F k ∧ F k < p ∧ 0 ≤ T k ∧ T k < p ∧ F k ≠ T k ∧ 1 ≤ G k ∧ G k ≤ 1000000
structure Sol (p n : Nat) (F T G : Nat → Int) (s : Nat) (D : Nat → Int) : Prop where
  zero : D s = 0
  lo : ∀ v, v < p → 0 ≤ D v
  hi : ∀ v, v < p → D v ≤ 1000000000000
  fix : ∀ k, k < n → D (T k).toNat ≤ D (F k).toNat + G k
  via : ∀ v, v < p → v ≠ s → D v < 1000000000000 → ∃ k, k < n ∧ (T k).toNat = v ∧ D (F k).toNat + G k ≤ D v
def relax (F T G : Nat → Int) (d : Nat → Int) (k : Nat) : Nat → Int :=
  up1 d (T k).toNat (min (d (T k).toNat) (min 1000000000000 (d (F k).toNat + G k)))
def turnTo (F T G : Nat → Int) (d : Nat → Int) : Nat → (Nat → Int)
  | 0 => d
  | k + 1 => relax F T G (turnTo F T G d k) k
def turns (F T G : Nat → Int) (n : Nat) (d : Nat → Int) : Nat → (Nat → Int)
  | 0 => d
  | t + 1 => turnTo F T G (turns F T G n d t) n
def start (s : Nat) : Nat → Int := fun v => if v = s then 0 else 1000000000000
theorem relax_le (F T G d : Nat → Int) (k v : Nat) : relax F T G d k v ≤ d v := by
  unfold relax up1
  split
  · next h => subst h; exact Int.min_le_left _ _
  · exact Int.le_refl _
theorem relax_at (F T G d : Nat → Int) (k : Nat) : relax F T G d k (T k).toNat ≤ d (F k).toNat + G k := by
  unfold relax
  rw [up1_same]
  exact Int.le_trans (Int.min_le_right _ _) (Int.min_le_right _ _)
theorem relax_ge {p n : Nat} {F T G : Nat → Int} {s : Nat} {D : Nat → Int} (hA : Arcs p n F T G) (h : Sol p n F T G s D) {d : Nat → Int} {k : Nat} (hk : k < n) (hd : ∀ v, v < p → D v ≤ d v) : ∀ v, v < p → D v ≤ relax F T G d k v := fun v hv => by
  unfold relax up1
  split
  · next e =>
    subst e
    have h1 := hd _ hv
    have h2 := h.fix k hk
    have h3 := hA k hk
    have h4 := hd (F k).toNat (by omega)
    have h5 := h.hi _ hv
    exact Int.le_min.2 ⟨h1, Int.le_min.2 ⟨h5, by omega⟩⟩
  · exact hd v hv
theorem turnTo_le (F T G d : Nat → Int) (v : Nat) : ∀ k, turnTo F T G d k v ≤ d v
  | 0 => Int.le_refl _
  | k + 1 => Int.le_trans (relax_le F T G _ k v) (turnTo_le F T G d v k)
theorem turnTo_anti (F T G d : Nat → Int) (v : Nat) (j : Nat) : ∀ k, j ≤ k → turnTo F T G d k v ≤ turnTo F T G d j v
  | 0, h => by
    obtain rfl : j = 0 := by omega
    exact Int.le_refl _
  | k + 1, h => by
    by_cases e : j = k + 1
    · subst e; exact Int.le_refl _
    · exact Int.le_trans (relax_le F T G _ k v) (turnTo_anti F T G d v j k (by omega))
theorem turnTo_at (F T G d : Nat → Int) {k n : Nat} (hk : k < n) : turnTo F T G d n (T k).toNat ≤ d (F k).toNat + G k := by
  have h1 := turnTo_anti F T G d (T k).toNat (k + 1) n (by omega)
  have h2 := relax_at F T G (turnTo F T G d k) k
  have h3 := turnTo_le F T G d (F k).toNat k
  have h4 : turnTo F T G d (k + 1) (T k).toNat = relax F T G (turnTo F T G d k) k (T k).toNat := rfl
  omega
theorem turnTo_ge {p n : Nat} {F T G : Nat → Int} {s : Nat} {D : Nat → Int} (hA : Arcs p n F T G) (h : Sol p n F T G s D) {d : Nat → Int} (hd : ∀ v, v < p → D v ≤ d v) : ∀ k, k ≤ n → ∀ v, v < p → D v ≤ turnTo F T G d k v
  | 0, _ => hd
  | k + 1, hk => relax_ge hA h (by omega) (turnTo_ge hA h hd k (by omega))
theorem turns_le (F T G : Nat → Int) (n : Nat) (d : Nat → Int) (v : Nat) : ∀ t, turns F T G n d t v ≤ d v
  | 0 => Int.le_refl _
  | t + 1 => Int.le_trans (turnTo_le F T G _ v n) (turns_le F T G n d v t)
theorem turns_ge {p n : Nat} {F T G : Nat → Int} {s : Nat} {D : Nat → Int} (hA : Arcs p n F T G) (h : Sol p n F T G s D) {d : Nat → Int} (hd : ∀ v, v < p → D v ≤ d v) : ∀ t, ∀ v, v < p → D v ≤ turns F T G n d t v
  | 0 => hd
  | t + 1 => turnTo_ge hA h (turns_ge hA h hd t) n nl
theorem turnTo_lo {p n : Nat} {F T G : Nat → Int} (hA : Arcs p n F T G) {d : Nat → Int} (hd : ∀ v, 0 ≤ d v) : ∀ k, k ≤ n → ∀ v, 0 ≤ turnTo F T G d k v
  | 0, _ => hd
  | k + 1, hk => fun v => by
    have ih := turnTo_lo hA hd k (by omega)
    have ha := hA k (by omega)
    show 0 ≤ relax F T G (turnTo F T G d k) k v
    unfold relax up1
    split
    · have h1 := ih (T k).toNat
      have h2 := ih (F k).toNat
      exact Int.le_min.2 ⟨h1, Int.le_min.2 ⟨by omega, by omega⟩⟩
    · exact ih v
theorem turns_lo {p n : Nat} {F T G : Nat → Int} (hA : Arcs p n F T G) {d : Nat → Int} (hd : ∀ v, 0 ≤ d v) : ∀ t v, 0 ≤ turns F T G n d t v
  | 0 => hd
  | t + 1 => turnTo_lo hA (turns_lo hA hd t) n nl
theorem start_lo (s v : Nat) : 0 ≤ start s v ∧ start s v ≤ 1000000000000 := by unfold start; split <;> omega
theorem mid_in {p n : Nat} {F T G : Nat → Int} (hA : Arcs p n F T G) (s t j : Nat) (hj : j ≤ n) (v : Nat) : 0 ≤ turnTo F T G (turns F T G n (start s) t) j v ∧ turnTo F T G (turns F T G n (start s) t) j v ≤ 1000000000000 := by
  refine ⟨turnTo_lo hA (turns_lo hA (fun u => (start_lo s u).1) t) j hj v, ?_⟩
  have h1 := turnTo_le F T G (turns F T G n (start s) t) v j
  have h2 := turns_le F T G n (start s) v t
  have h3 := (start_lo s v).2
  omega
def cnt (D : Nat → Int) (x : Int) : Nat → Nat
  | 0 => 0
  | m + 1 => cnt D x m + (if D m < x then 1 else 0)
theorem cnt_le (D : Nat → Int) (x : Int) : ∀ m, cnt D x m ≤ m
  | 0 => Nat.le_refl _
  | m + 1 => by unfold cnt; have := cnt_le D x m; split <;> omega
theorem cnt_mono (D : Nat → Int) {x y : Int} (h : x ≤ y) : ∀ m, cnt D x m ≤ cnt D y m
  | 0 => Nat.le_refl _
  | m + 1 => by
    unfold cnt
    have := cnt_mono D h m
    by_cases h1 : D m < x
    · rw [if_pos h1, if_pos (by omega)]; omega
    · rw [if_neg h1]; split <;> omega
theorem cnt_lt (D : Nat → Int) {x y : Int} (h : x ≤ y) {u : Nat} (hx : x ≤ D u) (hy : D u < y) : ∀ m, u < m → cnt D x m < cnt D y m
  | 0, hu => by omega
  | m + 1, hu => by
    unfold cnt
    by_cases e : u = m
    · subst e
      have := cnt_mono D h u
      rw [if_neg (by omega), if_pos hy]; omega
    · have := cnt_lt D h hx hy m (by omega)
      by_cases h1 : D m < x
      · rw [if_pos h1, if_pos (by omega)]; omega
      · rw [if_neg h1]; split <;> omega
theorem turns_near {p n : Nat} {F T G : Nat → Int} {s : Nat} {D : Nat → Int} (hA : Arcs p n F T G) (h : Sol p n F T G s D) : ∀ t, ∀ v, v < p → cnt D (D v) p ≤ t → turns F T G n (start s) t v ≤ D v
  | t, v, hv, hc => by
    by_cases e : v = s
    · subst e
      have := turns_le F T G n (start v) v t
      simp [start] at this
      rw [h.zero]; exact this
    by_cases hf : D v < 1000000000000
    · obtain ⟨k, hk, hT, hle⟩ := h.via v hv e hf
      have ha := hA k hk
      have hu : (F k).toNat < p := by omega
      have hlt := cnt_lt D (x := D (F k).toNat) (y := D v) (by omega) (Int.le_refl _) (by omega) p hu
      match t, hc with
      | 0, hc => omega
      | t + 1, hc =>
        have ih := turns_near hA h t (F k).toNat hu (by omega)
        have := turnTo_at F T G (turns F T G n (start s) t) hk
        rw [hT] at this
        show turnTo F T G (turns F T G n (start s) t) n v ≤ D v
        omega
    · have := turns_le F T G n (start s) v t
      have h2 : start s v ≤ 1000000000000 := by unfold start; split <;> omega
      omega
theorem turns_sol {p n : Nat} {F T G : Nat → Int} {s : Nat} {D : Nat → Int} (hA : Arcs p n F T G) (h : Sol p n F T G s D) (v : Nat) (hv : v < p) : turns F T G n (start s) p v = D v := by
  refine Int.le_antisymm (turns_near hA h p v hv (cnt_le _ _ _)) (turns_ge hA h (fun u hu => ?_) p v hv)
  unfold start
  split
  · next e => subst e; rw [h.zero]; exact Int.le_refl _
  · exact h.hi u hu
def Mem (E : Nat → Int × Int) (len : Nat) (e : Int × Int) : Prop := ∃ i, i < len ∧ E i = e
def far01 (x : Int) : Int := if x < 1000000000000 then 0 else 1000000
def lidded (x : Int) : Int := if x < 1000000000000 then x else 26000000
structure Going (p n : Nat) (F T G : Nat → Int) (s : Nat) (u k : Nat) (d : Nat → Int) (E : Nat → Int × Int) (len : Nat) : Prop where
  zero : d s = 0
  lo : ∀ v, v < p → 0 ≤ d v
  hi : ∀ v, v < p → d v ≤ 1000000000000
  via : ∀ v, v < p → v ≠ s → d v < 1000000000000 → ∃ k, k < n ∧ (T k).toNat = v ∧ d (F k).toNat + G k ≤ d v
  bound : ∀ v, v < p → d v < 1000000000000 → d v + sumTo (fun j => far01 (d j)) p ≤ 24000000
  ent : ∀ i, i < len → 0 ≤ (E i).1 ∧ (E i).1 < p ∧ d (E i).1.toNat ≤ (E i).2 ∧ (E i).2 < 1000000000000
  wait : ∀ x, x < p → x ≠ u → d x < 1000000000000 → Mem E len ((x : Int), d x) ∨ ∀ j, j < n → F j = x → d (T j).toNat ≤ d x + G j
  here : ∀ j, j < k → F j = u → d (T j).toNat ≤ d u + G j
def weight (p : Nat) (d : Nat → Int) (len : Nat) : Int := sumTo (fun j => lidded (d j)) p + len
theorem Going.begin {p n : Nat} {F T G : Nat → Int} {s : Nat} (hp : 1 ≤ p) (hp' : p ≤ 24) (hs : s < p) {E : Nat → Int × Int} (hE : E 0 = ((s : Int), 0)) : Going p n F T G s p 0 (start s) E 1 where
  zero := by simp [start]
  lo := fun v _ => by unfold start; split <;> omega
  hi := fun v _ => by unfold start; split <;> omega
  via := fun v _ hne hlt => by simp [start, hne] at hlt
  bound := fun v hv hlt => by
    have e : v = s := by
      by_cases e : v = s
      · exact e
      · simp [start, e] at hlt
    subst e
    have h1 : start v v = 0 := by simp [start]
    have h2 : sumTo (fun j => far01 (start v j)) p ≤ sumTo (fun _ => 1000000) p := sumTo_le p (fun j _ => by unfold far01; split <;> omega)
    rw [sumTo_const] at h2
    omega
  ent := fun i hi => by
    obtain rfl : i = 0 := by omega
    rw [hE]; simp [start]; omega
  wait := fun x hx _ hlt => by
    have e : x = s := by
      by_cases e : x = s
      · exact e
      · simp [start, e] at hlt
    subst e
    exact Or.inl ⟨0, by omega, by rw [hE]; simp [start]⟩
  here := fun j hj => by omega
theorem Going.done {p n : Nat} {F T G : Nat → Int} {s k : Nat} {d : Nat → Int} {E : Nat → Int × Int} (hA : Arcs p n F T G) (h : Going p n F T G s p k d E 0) : Sol p n F T G s d where
  zero := h.zero
  lo := h.lo
  hi := h.hi
  fix := fun j hj => by
    have ha := hA j hj
    by_cases hf : d (F j).toNat < 1000000000000
    · rcases h.wait (F j).toNat (by omega) (by omega) hf with ⟨i, hi, _⟩ | h1
      · omega
      · exact h1 j hj (by omega)
    · have := h.hi (T j).toNat (by omega)
      omega
  via := h.via
theorem Going.stale {p n : Nat} {F T G : Nat → Int} {s : Nat} {d : Nat → Int} {E E' : Nat → Int × Int} {len : Nat} {q x : Int} (h : Going p n F T G s p 0 d E (len + 1))
    (hm : ∀ e, Mem E (len + 1) e → e = (q, x) ∨ Mem E' len e) (hm' : ∀ i, i < len → Mem E (len + 1) (E' i)) (hq : d q.toNat < x) : Going p n F T G s p 0 d E' len where
  zero := h.zero
  lo := h.lo
  hi := h.hi
  via := h.via
  bound := h.bound
  ent := fun i hi => by
    obtain ⟨j, hj, e⟩ := hm' i hi
    have := h.ent j hj
    rw [e] at this; exact this
  wait := fun v hv hne hlt => by
    rcases h.wait v hv hne hlt with h1 | h1
    · rcases hm _ h1 with e | h2
      · simp at e
        obtain ⟨rfl, e2⟩ := e
        simp at hq; omega
      · exact Or.inl h2
    · exact Or.inr h1
  here := fun j hj => by omega
theorem Going.take {p n : Nat} {F T G : Nat → Int} {s : Nat} {d : Nat → Int} {E E' : Nat → Int × Int} {len : Nat} {q x : Int} (h : Going p n F T G s p 0 d E (len + 1))
    (hm : ∀ e, Mem E (len + 1) e → e = (q, x) ∨ Mem E' len e) (hm' : ∀ i, i < len → Mem E (len + 1) (E' i)) : Going p n F T G s q.toNat 0 d E' len where
  zero := h.zero
  lo := h.lo
  hi := h.hi
  via := h.via
  bound := h.bound
  ent := fun i hi => by
    obtain ⟨j, hj, e⟩ := hm' i hi
    have := h.ent j hj
    rw [e] at this; exact this
  wait := fun v hv hne hlt => by
    rcases h.wait v hv (by omega) hlt with h1 | h1
    · rcases hm _ h1 with e | h2
      · simp at e
        obtain ⟨rfl, e2⟩ := e
        simp at hne
      · exact Or.inl h2
    · exact Or.inr h1
  here := fun j hj => by omega
theorem Going.over {p n : Nat} {F T G : Nat → Int} {s u k : Nat} {d : Nat → Int} {E : Nat → Int × Int} {len : Nat} (h : Going p n F T G s u k d E len) (hk : ∀ j, k ≤ j → j < n → F j ≠ u) : Going p n F T G s p 0 d E len where
  zero := h.zero
  lo := h.lo
  hi := h.hi
  via := h.via
  bound := h.bound
  ent := h.ent
  wait := fun v hv _ hlt => by
    by_cases e : v = u
    · subst e
      refine Or.inr fun j hj hF => ?_
      by_cases hjk : j < k
      · exact h.here j hjk hF
      · exact absurd hF (hk j (by omega) hj)
    · exact h.wait v hv e hlt
  here := fun j hj => by omega
theorem Going.skip {p n : Nat} {F T G : Nat → Int} {s u k : Nat} {d : Nat → Int} {E : Nat → Int × Int} {len : Nat} (h : Going p n F T G s u k d E len) (hk : F k = u → d (T k).toNat ≤ d u + G k) : Going p n F T G s u (k + 1) d E len where
  zero := h.zero
  lo := h.lo
  hi := h.hi
  via := h.via
  bound := h.bound
  ent := h.ent
  wait := h.wait
  here := fun j hj hF => by
    by_cases e : j = k
    · subst e; exact hk hF
    · exact h.here j (by omega) hF
theorem far01_nonneg (x : Int) : 0 ≤ far01 x := by unfold far01; split <;> omega
theorem Going.put {p n : Nat} {F T G : Nat → Int} {s u k : Nat} {d : Nat → Int} {E E' : Nat → Int × Int} {len : Nat} (hA : Arcs p n F T G) (hs : s < p) (hu : u < p) (h : Going p n F T G s u k d E len) (hk : k < n) (hF : F k = u) (hless : d u + G k < d (T k).toNat) (hfin : d u < 1000000000000)
    (hm : ∀ e, Mem E len e ∨ e = (T k, d u + G k) → Mem E' (len + 1) e) (hm' : ∀ i, i < len + 1 → Mem E len (E' i) ∨ E' i = (T k, d u + G k)) :
    Going p n F T G s u (k + 1) (up1 d (T k).toNat (d u + G k)) E' (len + 1) ∧ weight p (up1 d (T k).toNat (d u + G k)) (len + 1) ≤ weight p d len ∧ up1 d (T k).toNat (d u + G k) u = d u ∧ d u + G k < 1000000000000 := by
  have ha := hA k hk
  have hne : u ≠ (T k).toNat := by omega
  have hlo := h.lo u hu
  have htp : (T k).toNat < p := by omega
  have hts : (T k).toNat ≠ s := fun e => by rw [e, h.zero] at hless; omega
  have hsn : s ≠ (T k).toNat := fun e => hts e.symm
  have hhi := h.hi _ htp
  have hb0 := h.bound u hu hfin
  have hpos : 0 ≤ sumTo (fun j => far01 (d j)) p := by
    have := sumTo_le (f := fun _ => 0) (g := fun j => far01 (d j)) p (fun j _ => far01_nonneg _)
    rw [sumTo_const] at this
    omega
  have hbf : sumTo (fun j => far01 (up1 d (T k).toNat (d u + G k) j)) p = sumTo (fun j => far01 (d j)) p - far01 (d (T k).toNat) := by
    rw [sumTo_at (g := fun j => far01 (d j)) (v := (T k).toNat) (fun j hj => by simp only [up1_other d _ hj]) p htp]
    simp only [up1_same]
    have : far01 (d u + G k) = 0 := by unfold far01; rw [if_pos (by omega)]
    omega
  have hmn : ∀ j, up1 d (T k).toNat (d u + G k) j ≤ d j := fun j => by
    unfold up1
    split
    · next e => subst e; omega
    · exact Int.le_refl _
  refine ⟨⟨?_, ?_, ?_, ?_, ?_, ?_, ?_, ?_⟩, ?_, up1_other d _ hne, by omega⟩
  · rw [up1_other d _ hsn]; exact h.zero
  · intro v hv
    unfold up1
    split
    · omega
    · exact h.lo v hv
  · intro v hv
    exact Int.le_trans (hmn v) (h.hi v hv)
  · intro v hv hvs hlt
    by_cases e : v = (T k).toNat
    · subst e
      refine ⟨k, hk, rfl, ?_⟩
      rw [up1_same, up1_other d _ (by omega)]
      have : (F k).toNat = u := by omega
      rw [this]; exact Int.le_refl _
    · rw [up1_other d _ e] at hlt ⊢
      obtain ⟨k', hk', hT', hle⟩ := h.via v hv hvs hlt
      exact ⟨k', hk', hT', Int.le_trans (Int.add_le_add_right (hmn _) _) hle⟩
  · intro v hv hlt
    rw [hbf]
    have hfp := far01_nonneg (d (T k).toNat)
    by_cases e : v = (T k).toNat
    · subst e
      rw [up1_same]
      by_cases hft : d (T k).toNat < 1000000000000
      · have := h.bound _ htp hft
        omega
      · have : far01 (d (T k).toNat) = 1000000 := by unfold far01; rw [if_neg hft]
        omega
    · rw [up1_other d _ e] at hlt ⊢
      have := h.bound v hv hlt
      omega
  · intro i hi
    rcases hm' i hi with ⟨j, hj, e⟩ | e
    · have := h.ent j hj
      rw [e] at this
      have h2 := hmn (E' i).1.toNat
      exact ⟨this.1, this.2.1, by omega, this.2.2.2⟩
    · rw [e]
      refine ⟨ha.2.2.1, ha.2.2.2.1, ?_, by simp only []; omega⟩
      simp only [up1_same]; exact Int.le_refl _
  · intro x hx hxu hlt
    by_cases e : x = (T k).toNat
    · subst e
      refine Or.inl (hm _ (Or.inr ?_))
      rw [up1_same]
      have : (((T k).toNat : Nat) : Int) = T k := by omega
      rw [this]
    · rw [up1_other d _ e] at hlt ⊢
      rcases h.wait x hx hxu hlt with h1 | h1
      · exact Or.inl (hm _ (Or.inl h1))
      · exact Or.inr fun j hj hFj => Int.le_trans (hmn _) (h1 j hj hFj)
  · intro j hj hFj
    rw [up1_other d _ hne]
    by_cases e : j = k
    · subst e
      rw [up1_same]; exact Int.le_refl _
    · exact Int.le_trans (hmn _) (h.here j (by omega) hFj)
  · unfold weight
    rw [sumTo_at (f := fun j => lidded (up1 d (T k).toNat (d u + G k) j)) (g := fun j => lidded (d j)) (v := (T k).toNat) (fun j hj => by simp only [up1_other d _ hj]) p htp]
    simp only [up1_same]
    have h1 : lidded (d u + G k) = d u + G k := by unfold lidded; rw [if_pos (by omega)]
    have h2 : d u + G k + 1 ≤ lidded (d (T k).toNat) := by
      unfold lidded
      split <;> omega
    push_cast
    omega
theorem weight_start {p : Nat} (hp : p ≤ 24) (s : Nat) : weight p (start s) 1 ≤ 624000001 := by
  unfold weight
  have h2 : sumTo (fun j => lidded (start s j)) p ≤ sumTo (fun _ => 26000000) p := sumTo_le p (fun j _ => by unfold start lidded; split <;> split <;> omega)
  rw [sumTo_const] at h2
  push_cast
  omega
theorem weight_len {p n : Nat} {F T G : Nat → Int} {s u k : Nat} {d : Nat → Int} {E : Nat → Int × Int} {len : Nat} (h : Going p n F T G s u k d E len) : (len : Int) ≤ weight p d len ∧ 0 ≤ weight p d len := by
  unfold weight
  have := sumTo_le (f := fun _ => 0) (g := fun j => lidded (d j)) p (fun j hj => by have := h.lo j hj; unfold lidded; split <;> omega)
  rw [sumTo_const] at this
  omega
end
section
open Go.RowKit
attribute [local go_sem ↓] Go.wp_at_zero Go.wp_at_succ
theorem l1Min_any (a b : Int) (w : World) : Calls Tryz.prog 91 #[.int .i64 a, .int .i64 b] w fun e w' => e = .returned (.int .i64 (min a b)) ∧ w' = w := by
  by_cases h : a < b
  · go_enter Tryz.func91, Tryz.ntmps91
    go_wp2
    go_ret
    exact ⟨ret_i64 (by omega), rfl⟩
  · go_enter Tryz.func91, Tryz.ntmps91
    go_wp2
    go_ret
    exact ⟨ret_i64 (by omega), rfl⟩
theorem l1Add_any (a b : Int) (ha : 0 ≤ a) (ha' : a ≤ 1000000000000) (hb : 0 ≤ b) (hb' : b ≤ 1000000000000) (w : World) : Calls Tryz.prog 92 #[.int .i64 a, .int .i64 b] w fun e w' => e = .returned (.int .i64 (min 1000000000000 (a + b))) ∧ w' = w := by
  go_enter Tryz.func92, Tryz.ntmps92
  go_wp2_with (go_at_call 91; refine (l1Min_any _ _ _).mono ?_; rintro e w1 ⟨rfl, rfl⟩)
  go_ret
  exact ⟨rfl, rfl⟩
theorem plus_any (a b : Int) (ha : 0 ≤ a) (ha' : a ≤ 1000000000000) (hb : 0 ≤ b) (hb' : b ≤ 1000000000000) (w : World) : Calls Tryz.prog 67 #[.int .i64 a, .int .i64 b] w fun e w' => e = .returned (.int .i64 (min 1000000000000 (a + b))) ∧ w' = w := by
  go_enter Tryz.func67, Tryz.ntmps67
  go_wp2 <;>
  · go_ret
    exact ⟨ret_i64 (by omega), rfl⟩
end
section
open Go.RowKit Go.Maps
attribute [local go_sem ↓] Go.wp_at_zero Go.wp_at_succ
set_option maxRecDepth 100000 in
set_option maxHeartbeats 2000000 in
theorem l2Distances_any (p s : Nat) (ao : Option Addr) (n cap : Nat) (F T G : Nat → Int) (hp1 : 1 ≤ p) (hp2 : p ≤ 24) (hs : s < p) (hn : n ≤ 100) (hA : Arcs p n F T G) (w : World) (hr : Row w ao n F T G) :
    Calls Tryz.prog 69 #[.agg #[.int .i64 p, .slice ao n cap], .int .i64 s] w fun e w' => ∃ g cap', e = .returned (.slice (some ⟨g, 0, none⟩) p cap') ∧ w.heap.size ≤ g ∧ IHas w' g p (turns F T G n (start s) p) ∧ Below w.heap.size w w' := by
  have HA : Hid (Arcs p n F T G) := hA
  clear hA
  go_enter Tryz.func69, Tryz.ntmps69
  go_wp2
  go_loopw [5, 6] (fun d i wr => ∃ k g c : Nat, k ≤ p ∧ i = .int .i64 k ∧ d = .slice (some ⟨g, 0, none⟩) k c ∧ IOwn wr (w.heap.size + 1) g c k (fun _ => 1000000000000) ∧ Below (w.heap.size + 1) (w.alloc (.cells #[.int .i64 p, .slice ao n cap] 26)) wr) (fun _ i _ => p - (intOf i).toNat)
  case atStart => exact ⟨0, w.heap.size + 1, 0, Nat.zero_le _, rfl, rfl, by simpa using IOwn.empty (w.alloc (.cells #[.int .i64 p, .slice ao n cap] 26)) (base := w.heap.size + 1) (by simp) _, (Below.refl _ _).alloc (by simp) _⟩
  case round =>
    obtain ⟨k, g, c, hk, rfl, rfl, hown, hbel⟩ := hrel
    obtain ⟨g0, g1, hsz⟩ := box2 hbel
    have hgl := hown.lt
    have hgb := hown.base
    by_cases hlt : k < p
    · have hlt' : (k : Int) < (p : Int) := by omega
      go_wp2_with (at_builtin; refine wpList_append_int rfl _ _ rfl (w.heap.size + 1) g c k (fun _ => 1000000000000) rfl (by exact hown.below ((Below.refl _ _).alloc nl _) (by omega)) ⟨wr.heap.size, 0, none⟩ 1 1000000000000 rfl (by simp [go_sem]) (by omega) (by simp; omega) ?_; intro g' c' w2 hown2 hgrow2 hat2)
      go_wp2
      go_roundw
      case rel => exact ⟨k + 1, g', c', by omega, by go_num, rfl, hown2 _ (fun _ _ => rfl) rfl, (hbel.alloc (by omega) _).grown hgrow2 (by simp; omega) (fun j hj => by cases hj; omega)⟩
      case measure => simp [intOf]; omega
    have hkp : k = p := by omega
    subst hkp
    have d0 := hown.has.cell hs
    have z0 := hown.has.frozen s
    have hs0 : (s : Int) < (k : Int) := by omega
    have R : IHas (wr.setCell ⟨g, s, none⟩ (.int .i64 0)) g k (start s) := (hown.has.set s 0).congr (fun j hj => by unfold start; rfl)
    have B := hbel.setCell (p := ⟨g, s, none⟩) hgb (.int .i64 0)
    clear hown
    go_wp2
    clear d0 z0 g0 g1
    go_loopw [7] (fun x wr2 => ∃ t : Nat, t ≤ k ∧ x = .int .i64 t ∧ IHas wr2 g k (turns F T G n (start s) t) ∧ Below (w.heap.size + 1) (w.alloc (.cells #[.int .i64 k, .slice ao n cap] 26)) wr2) (fun x _ => k - (intOf x).toNat)
    case atStart => exact ⟨0, Nat.zero_le _, rfl, R, B⟩
    case round =>
      obtain ⟨t, ht, rfl, hI, hB⟩ := hrel
      clear R B
      obtain ⟨g0, g1, hsz2⟩ := box2 hB
      by_cases hlt2 : t < k
      rotate_left
      · have htk : t = k := by omega
        subst htk
        go_wp2
        go_ret
        exact ⟨g, c, rfl, by omega, hI, unbox hB (by omega)⟩
      have hlt2' : (t : Int) < (k : Int) := by omega
      go_wp2
      go_loopw [8] (fun x wr3 => ∃ j : Nat, j ≤ n ∧ x = .int .i64 j ∧ IHas wr3 g k (turnTo F T G (turns F T G n (start s) t) j) ∧ Below (w.heap.size + 1) (w.alloc (.cells #[.int .i64 k, .slice ao n cap] 26)) wr3) (fun x _ => n - (intOf x).toNat)
      case atStart => exact ⟨0, Nat.zero_le _, rfl, hI, hB⟩
      case round =>
        obtain ⟨j, hj, rfl, hI3, hB3⟩ := hrel
        clear hI hB g0 g1
        obtain ⟨g0, g1, hsz3⟩ := box2 hB3
        by_cases hlt3 : j < n
        rotate_left
        · have hjn : j = n := by omega
          subst hjn
          go_wp2
          go_roundw
          case rel => exact ⟨t + 1, by omega, by go_num, hI3, hB3⟩
          case measure => simp [intOf]; omega
        obtain ⟨ab, aoff, hao, e0, e1, e2⟩ := ((hr.alloc _).below hB3 (by simp)) j hlt3
        subst hao
        have ha := HA.out j hlt3
        obtain ⟨tF, hF⟩ : ∃ tF : Nat, F j = (tF : Int) := ⟨(F j).toNat, by omega⟩
        obtain ⟨tT, hT⟩ : ∃ tT : Nat, T j = (tT : Int) := ⟨(T j).toNat, by omega⟩
        have l1 : tF < k := by omega
        have l2 : tT < k := by omega
        have x1 : (tF : Int) < (k : Int) := by omega
        have x2 : (tT : Int) < (k : Int) := by omega
        have w0 := hI3.cell l1
        have w1 := hI3.cell l2
        have z1 := hI3.frozen tT
        have b1 := hI3.frozen tF
        have PK : Hid (IHas wr g k (turnTo F T G (turns F T G n (start s) t) j) ∧ Below (w.heap.size + 1) (w.alloc (.cells #[.int .i64 k, .slice (some ⟨ab, aoff, none⟩) n cap] 26)) wr) := ⟨hI3, hB3⟩
        have hgl3 := hI3.lt
        have v0 : 0 ≤ turnTo F T G (turns F T G n (start s) t) j tF ∧ turnTo F T G (turns F T G n (start s) t) j tF ≤ 1000000000000 := mid_in HA.out s t j (by omega) tF
        have v1 : 0 ≤ G j ∧ G j ≤ 1000000000000 := by omega
        clear hI3 hB3 hr ha hbel hk hlt
        go_wp2
        refine wp_region_last_lit 18 (by kernel_rfl) (by rfl) (by rfl) (by rfl) (by kernel_rfl) (by kernel_rfl) (by kernel_rfl) (by rfl) ?_
        simp only [List.take_succ_cons, List.take_zero, List.cons_append, List.nil_append]
        repeat (go_big_quiet_step (first | exact Calls.quiet_of_same (l1Add_any _ _ v0.1 v0.2 v1.1 v1.2 _) | exact Calls.quiet_of_same (l1Min_any _ _ _)))
        refine wpQuiet_nil ?_
        intro w7 hw7
        obtain ⟨nq, rfl⟩ := hw7
        obtain ⟨hI3, hB3⟩ := PK.out
        have al := (Below.refl wr.heap.size wr).alloc nl (.cells #[.int .i64 (tF : Int), .int .i64 (tT : Int), .int .i64 (G j)] 67)
        have hI6 := hI3.below al hI3.lt
        have hI7 := hI6.below (below_drewN (Below.refl _ _) nq) hI6.lt
        have hB7 := below_drewN (hB3.trans (al.mono (by omega))) nq
        clear PK hI3 hB3 al hI6 w0 w1 z1 b1 e0 e1 e2 g0 g1
        generalize (wr.alloc (.cells #[.int .i64 (tF : Int), .int .i64 (tT : Int), .int .i64 (G j)] 67)).drewN nq = W7 at hI7 hB7 ⊢
        have s0 := hI7.cell l2
        have s1 := hI7.frozen tT
        have R : IHas (W7.setCell ⟨g, tT, none⟩ (.int .i64 (min (turnTo F T G (turns F T G n (start s) t) j tT) (min 1000000000000 (turnTo F T G (turns F T G n (start s) t) j tF + G j))))) g k (turnTo F T G (turns F T G n (start s) t) (j + 1)) := (hI7.set tT _).congr (fun i hi => by
          have h1 : (T j).toNat = tT := by omega
          have h2 : (F j).toNat = tF := by omega
          show _ = relax F T G (turnTo F T G (turns F T G n (start s) t) j) j i
          unfold relax up1
          rw [h1, h2])
        have B := hB7.setCell (p := ⟨g, tT, none⟩) hgb (.int .i64 (min (turnTo F T G (turns F T G n (start s) t) j tT) (min 1000000000000 (turnTo F T G (turns F T G n (start s) t) j tF + G j))))
        clear hI7 hB7
        go_simp
        go_wp2
        go_roundw
        case rel => exact ⟨j + 1, by omega, by go_num, R, B⟩
        case measure => simp [intOf]; omega
def okD (p : Int) (n : Nat) (F T G : Nat → Int) (s : Int) : Bool := graphB p n F T G && inB s 0 (p - 1)
def lenD (p : Int) (n : Nat) (F T G : Nat → Int) (s : Int) : Nat := if okD p n F T G s then p.toNat else 0
def listD (p : Int) (n : Nat) (F T G : Nat → Int) (s : Int) : Nat → Int := turns F T G n (start s.toNat) p.toNat
theorem arcs_of {pn n : Nat} {F T G : Nat → Int} (h : arcsB (pn : Int) F T G n = true) : Arcs pn n F T G := fun k hk => by
  have := (arcsB_each n h k hk).1
  simp [arcB, inB] at this
  omega
set_option maxHeartbeats 1000000 in
theorem specDistances_any (p : Int) (ao : Option Addr) (n cap : Nat) (F T G : Nat → Int) (s : Int) (hn : n ≤ 1048576) (w : World) (hr : Row w ao n F T G) :
    Calls Tryz.prog 40 #[.agg #[.int .i64 p, .slice ao n cap], .int .i64 s] w fun e w' => Ans w w' e (lenD p n F T G s) (listD p n F T G s) := by
  rcases Bool.eq_false_or_eq_true (graphB p n F T G) with h | h
  rotate_left
  · have hL : lenD p n F T G s = 0 := by simp [lenD, okD, h]
    rw [hL]
    go_enter Tryz.func40, Tryz.ntmps40
    go_wp2_with (go_at_call 44; refine (specGraphOk_any p ao n cap F T G hn _ (hr.alloc _)).mono ?_; rintro e w1 ⟨rfl, hb1⟩)
    go_ret
    exact ⟨_, _, rfl, fun h => by omega, unbox (hb1.alloc (by have := hb1.size; omega) _) (by simp)⟩
  have hpp : 1 ≤ p ∧ p ≤ 24 := by simpa [inB] using graphB_p h
  obtain ⟨hp1, hp2⟩ := hpp
  rcases Bool.eq_false_or_eq_true (inB s 0 (p - 1)) with h2 | h2
  rotate_left
  · have hL : lenD p n F T G s = 0 := by simp [lenD, okD, h2]
    rw [hL]
    go_enter Tryz.func40, Tryz.ntmps40
    go_wp2_with (first | (go_at_call 44; refine (specGraphOk_any p ao n cap F T G hn _ (hr.alloc _)).mono ?_; rintro e w1 ⟨rfl, hb1⟩; obtain ⟨hc, hf⟩ := bcell hb1) | (go_at_call 33; refine (l1In_any _ _ _ _).mono ?_; rintro e wq ⟨rfl, hq⟩; have hq' := hq.symm; subst hq'; clear hq))
    go_ret
    exact ⟨_, _, rfl, fun h => by omega, unbox (hb1.alloc (by have := hb1.size; omega) _) (by simp)⟩
  have hs0 : 0 ≤ s ∧ s ≤ p - 1 := by simpa [inB] using h2
  obtain ⟨pn, rfl⟩ : ∃ pn : Nat, p = (pn : Int) := ⟨p.toNat, by omega⟩
  obtain ⟨sn, rfl⟩ : ∃ sn : Nat, s = (sn : Int) := ⟨s.toNat, by omega⟩
  have hL : lenD pn n F T G sn = pn := by simp [lenD, okD, h, h2]
  have hD : listD pn n F T G sn = turns F T G n (start sn) pn := by simp [listD]
  rw [hL, hD]
  have harc := arcs_of (graphB_arcs h).2
  have hn1 := (graphB_arcs h).1
  clear hL hD
  go_enter Tryz.func40, Tryz.ntmps40
  go_wp2_with (first | (go_at_call 44; refine (specGraphOk_any pn ao n cap F T G hn _ (hr.alloc _)).mono ?_; rintro e w1 ⟨rfl, hb1⟩; obtain ⟨hc, hf⟩ := bcell hb1) | (go_at_call 33; refine (l1In_any _ _ _ _).mono ?_; rintro e wq ⟨rfl, hq⟩; have hq' := hq.symm; subst hq'; clear hq) | (go_at_call 69; refine (l2Distances_any pn sn ao n cap F T G (by omega) (by omega) (by omega) hn1 harc _ ((hr.alloc _).below hb1 nl)).mono ?_; rintro e w2 ⟨g, c, rfl, hg, hI, hb2⟩))
  go_ret
  exact ⟨_, _, rfl, fun _ => ⟨g, rfl, by have := hb1.size; simp at this; omega, hI⟩, unbox (below_next hb1 nl hb2) (by simp)⟩
end
end Go.Proofs.YthmpliljffmmcaaGreatDoor
