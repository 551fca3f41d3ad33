/-
  Helpers, merged: Dist, ShC, RtP, RkIn, MetG, RtM, WtOk, ClmA.
-/
import Derived.Test.YtokaechbmnbbiabGreatPack1
import Derived.Test.YtokaechbmnbbiabGreatPack4
import Derived.Test.YtokaechbmnbbiabGreatPack13
import Derived.Test.YtokaechbmnbbiabGreatPack11
import Derived.Test.YtokaechbmnbbiabGreatPack3
import Derived.Test.YtokaechbmnbbiabGreatPack7
import Derived.Test.YtokaechbmnbbiabGreatPack10
import Derived.Deep.RegionHeld3
import Derived.Maps.Own
import Derived.Maps.OwnOps
import Derived.Maps.OwnSet
import Derived.Maps.Views
import Derived.Test.YtokaechbmnbbiabGreatPack2
import Derived.Test.YtokaechbmnbbiabGreatPack5
import Derived.Laws.Rows
/-
  Distances, with no program in sight: what a right list of distances is, that going over all arcs once a place finds it, and that going on from places that wait keeps to it.
-/
set_option linter.unusedVariables false
set_option linter.unusedSimpArgs false
namespace Go.Proofs.YtokaechbmnbbiabGreat

def up1 (d : Nat → Int) (v : Nat) (x : Int) : Nat → Int := fun j => if j = v then x else d j
theorem up1_same (d : Nat → Int) (v : Nat) (x : Int) : up1 d v x v = x := by simp [up1]
def sumTo (f : Nat → Int) : Nat → Int
  | 0 => 0
  | n + 1 => sumTo f n + f n
theorem sumTo_le {f g : Nat → Int} : ∀ n, (∀ v, v < n → f v ≤ g v) → sumTo f n ≤ sumTo g n
  | 0, _ => Int.le_refl _
  | n + 1, h => by
    simp only [sumTo]
    have := sumTo_le n (fun v hv => h v (by omega))
    have := h n (by omega)
    omega
def Arcs (p n : Nat) (F T G : Nat → Int) : Prop := ∀ k, k < n → 0 ≤ F k ∧ F k < p ∧ 0 ≤ T k ∧ T k < p ∧ F k ≠ T k ∧ 1 ≤ G k ∧ G k ≤ 1000000

structure Sol (p n : Nat) (F T G : Nat → Int) (s : Nat) (D : Nat → Int) : Prop where
  zero : D s = 0
  lo : ∀ v, v < p → 0 ≤ D v
  hi : ∀ v, v < p → D v ≤ 1000000000000
  fix : ∀ k, k < n → D (T k).toNat ≤ D (F k).toNat + G k
  via : ∀ v, v < p → v ≠ s → D v < 1000000000000 → ∃ k, k < n ∧ (T k).toNat = v ∧ D (F k).toNat + G k ≤ D v

def relax (F T G : Nat → Int) (d : Nat → Int) (k : Nat) : Nat → Int :=
  up1 d (T k).toNat (min (d (T k).toNat) (min 1000000000000 (d (F k).toNat + G k)))
def turnTo (F T G : Nat → Int) (d : Nat → Int) : Nat → (Nat → Int)
  | 0 => d
  | k + 1 => relax F T G (turnTo F T G d k) k
def turns (F T G : Nat → Int) (n : Nat) (d : Nat → Int) : Nat → (Nat → Int)
  | 0 => d
  | t + 1 => turnTo F T G (turns F T G n d t) n
def start (s : Nat) : Nat → Int := fun v => if v = s then 0 else 1000000000000

theorem relax_le (F T G d : Nat → Int) (k v : Nat) : relax F T G d k v ≤ d v := by
  unfold relax up1
  split
  · next h => subst h; exact Int.min_le_left _ _
  · exact Int.le_refl _
theorem relax_at (F T G d : Nat → Int) (k : Nat) : relax F T G d k (T k).toNat ≤ d (F k).toNat + G k := by
  unfold relax
  rw [up1_same]
  exact Int.le_trans (Int.min_le_right _ _) (Int.min_le_right _ _)
theorem relax_ge {p n : Nat} {F T G : Nat → Int} {s : Nat} {D : Nat → Int} (hA : Arcs p n F T G) (h : Sol p n F T G s D) {d : Nat → Int} {k : Nat} (hk : k < n) (hd : ∀ v, v < p → D v ≤ d v) : ∀ v, v < p → D v ≤ relax F T G d k v := fun v hv => by
  unfold relax up1
  split
  · next e =>
    subst e
    have h1 := hd _ hv
    have h2 := h.fix k hk
    have h3 := hA k hk
    have h4 := hd (F k).toNat (by omega)
    have h5 := h.hi _ hv
    exact Int.le_min.2 ⟨h1, Int.le_min.2 ⟨h5, by omega⟩⟩
  · exact hd v hv
theorem turnTo_le (F T G d : Nat → Int) (v : Nat) : ∀ k, turnTo F T G d k v ≤ d v
  | 0 => Int.le_refl _
  | k + 1 => Int.le_trans (relax_le F T G _ k v) (turnTo_le F T G d v k)
theorem turnTo_anti (F T G d : Nat → Int) (v : Nat) (j : Nat) : ∀ k, j ≤ k → turnTo F T G d k v ≤ turnTo F T G d j v
  | 0, h => by
    obtain rfl : j = 0 := by omega
    exact Int.le_refl _
  | k + 1, h => by
    by_cases e : j = k + 1
    · subst e; exact Int.le_refl _
    · exact Int.le_trans (relax_le F T G _ k v) (turnTo_anti F T G d v j k (by omega))
theorem turnTo_at (F T G d : Nat → Int) {k n : Nat} (hk : k < n) : turnTo F T G d n (T k).toNat ≤ d (F k).toNat + G k := by
  have h1 := turnTo_anti F T G d (T k).toNat (k + 1) n (by omega)
  have h2 := relax_at F T G (turnTo F T G d k) k
  have h3 := turnTo_le F T G d (F k).toNat k
  have h4 : turnTo F T G d (k + 1) (T k).toNat = relax F T G (turnTo F T G d k) k (T k).toNat := rfl
  omega
theorem turnTo_ge {p n : Nat} {F T G : Nat → Int} {s : Nat} {D : Nat → Int} (hA : Arcs p n F T G) (h : Sol p n F T G s D) {d : Nat → Int} (hd : ∀ v, v < p → D v ≤ d v) : ∀ k, k ≤ n → ∀ v, v < p → D v ≤ turnTo F T G d k v
  | 0, _ => hd
  | k + 1, hk => relax_ge hA h (by omega) (turnTo_ge hA h hd k (by omega))
theorem turns_le (F T G : Nat → Int) (n : Nat) (d : Nat → Int) (v : Nat) : ∀ t, turns F T G n d t v ≤ d v
  | 0 => Int.le_refl _
  | t + 1 => Int.le_trans (turnTo_le F T G _ v n) (turns_le F T G n d v t)
theorem turns_ge {p n : Nat} {F T G : Nat → Int} {s : Nat} {D : Nat → Int} (hA : Arcs p n F T G) (h : Sol p n F T G s D) {d : Nat → Int} (hd : ∀ v, v < p → D v ≤ d v) : ∀ t, ∀ v, v < p → D v ≤ turns F T G n d t v
  | 0 => hd
  | t + 1 => turnTo_ge hA h (turns_ge hA h hd t) n (Nat.le_refl _)

theorem turnTo_lo {p n : Nat} {F T G : Nat → Int} (hA : Arcs p n F T G) {d : Nat → Int} (hd : ∀ v, 0 ≤ d v) : ∀ k, k ≤ n → ∀ v, 0 ≤ turnTo F T G d k v
  | 0, _ => hd
  | k + 1, hk => fun v => by
    have ih := turnTo_lo hA hd k (by omega)
    have ha := hA k (by omega)
    show 0 ≤ relax F T G (turnTo F T G d k) k v
    unfold relax up1
    split
    · have h1 := ih (T k).toNat
      have h2 := ih (F k).toNat
      exact Int.le_min.2 ⟨h1, Int.le_min.2 ⟨by omega, by omega⟩⟩
    · exact ih v
theorem turns_lo {p n : Nat} {F T G : Nat → Int} (hA : Arcs p n F T G) {d : Nat → Int} (hd : ∀ v, 0 ≤ d v) : ∀ t v, 0 ≤ turns F T G n d t v
  | 0 => hd
  | t + 1 => turnTo_lo hA (turns_lo hA hd t) n (Nat.le_refl _)
theorem start_lo (s v : Nat) : 0 ≤ start s v ∧ start s v ≤ 1000000000000 := by unfold start; split <;> omega
theorem mid_in {p n : Nat} {F T G : Nat → Int} (hA : Arcs p n F T G) (s t j : Nat) (hj : j ≤ n) (v : Nat) : 0 ≤ turnTo F T G (turns F T G n (start s) t) j v ∧ turnTo F T G (turns F T G n (start s) t) j v ≤ 1000000000000 := by
  refine ⟨turnTo_lo hA (turns_lo hA (fun u => (start_lo s u).1) t) j hj v, ?_⟩
  have h1 := turnTo_le F T G (turns F T G n (start s) t) v j
  have h2 := turns_le F T G n (start s) v t
  have h3 := (start_lo s v).2
  omega

def cnt (D : Nat → Int) (x : Int) : Nat → Nat
  | 0 => 0
  | m + 1 => cnt D x m + (if D m < x then 1 else 0)
theorem cnt_le (D : Nat → Int) (x : Int) : ∀ m, cnt D x m ≤ m
  | 0 => Nat.le_refl _
  | m + 1 => by unfold cnt; have := cnt_le D x m; split <;> omega
theorem cnt_mono (D : Nat → Int) {x y : Int} (h : x ≤ y) : ∀ m, cnt D x m ≤ cnt D y m
  | 0 => Nat.le_refl _
  | m + 1 => by
    unfold cnt
    have := cnt_mono D h m
    by_cases h1 : D m < x
    · rw [if_pos h1, if_pos (by omega)]; omega
    · rw [if_neg h1]; split <;> omega
theorem cnt_lt (D : Nat → Int) {x y : Int} (h : x ≤ y) {u : Nat} (hx : x ≤ D u) (hy : D u < y) : ∀ m, u < m → cnt D x m < cnt D y m
  | 0, hu => by omega
  | m + 1, hu => by
    unfold cnt
    by_cases e : u = m
    · subst e
      have := cnt_mono D h u
      rw [if_neg (by omega), if_pos hy]; omega
    · have := cnt_lt D h hx hy m (by omega)
      by_cases h1 : D m < x
      · rw [if_pos h1, if_pos (by omega)]; omega
      · rw [if_neg h1]; split <;> omega
theorem turns_near {p n : Nat} {F T G : Nat → Int} {s : Nat} {D : Nat → Int} (hA : Arcs p n F T G) (h : Sol p n F T G s D) : ∀ t, ∀ v, v < p → cnt D (D v) p ≤ t → turns F T G n (start s) t v ≤ D v
  | t, v, hv, hc => by
    by_cases e : v = s
    · subst e
      have := turns_le F T G n (start v) v t
      simp [start] at this
      rw [h.zero]; exact this
    by_cases hf : D v < 1000000000000
    · obtain ⟨k, hk, hT, hle⟩ := h.via v hv e hf
      have ha := hA k hk
      have hu : (F k).toNat < p := by omega
      have hlt := cnt_lt D (x := D (F k).toNat) (y := D v) (by omega) (Int.le_refl _) (by omega) p hu
      match t, hc with
      | 0, hc => omega
      | t + 1, hc =>
        have ih := turns_near hA h t (F k).toNat hu (by omega)
        have := turnTo_at F T G (turns F T G n (start s) t) hk
        rw [hT] at this
        show turnTo F T G (turns F T G n (start s) t) n v ≤ D v
        omega
    · have := turns_le F T G n (start s) v t
      have h2 : start s v ≤ 1000000000000 := by unfold start; split <;> omega
      omega

theorem turns_sol {p n : Nat} {F T G : Nat → Int} {s : Nat} {D : Nat → Int} (hA : Arcs p n F T G) (h : Sol p n F T G s D) (v : Nat) (hv : v < p) : turns F T G n (start s) p v = D v := by
  refine Int.le_antisymm (turns_near hA h p v hv (cnt_le _ _ _)) (turns_ge hA h (fun u hu => ?_) p v hv)
  unfold start
  split
  · next e => subst e; rw [h.zero]; exact Int.le_refl _
  · exact h.hi u hu

end Go.Proofs.YtokaechbmnbbiabGreat

/-
  The shortest way, plainly: the distance by a customized metric is that of the map.
-/
set_option linter.unusedVariables false
set_option linter.unusedSimpArgs false
namespace Go.Proofs.YtokaechbmnbbiabGreat

section
variable {k n m : Nat} {F T G P L H : Nat → Int} {Ds : Nat → Nat → Int}
theorem ds_tri (hF : ∀ t, t < n → (F t).toNat < k) (hG : ∀ t, t < n → 1 ≤ G t ∧ G t ≤ 1000000) (hS : ∀ s, s < k → Sol k n F T G s (Ds s)) {s u : Nat} (hs : s < k) (hu : u < k) : ∀ N v, v < k → (Ds u v).toNat ≤ N → Ds s v ≤ Ds s u + Ds u v := by
  intro N
  induction N with
  | zero =>
    intro v hv hN
    by_cases e : v = u
    · subst e; have := (hS v hu).zero; omega
    · have h0 := (hS u hu).lo v hv
      obtain ⟨t, ht, e1, e2⟩ := (hS u hu).via v hv e (by omega)
      have h1 := (hS u hu).lo (F t).toNat (hF t ht)
      have h2 := hG t ht
      omega
  | succ N ih =>
    intro v hv hN
    have h3 := (hS s hs).lo u hu
    by_cases e : v = u
    · subst e; have := (hS v hu).zero; omega
    by_cases hf : Ds u v < 1000000000000
    rotate_left
    · have := (hS s hs).hi v hv; omega
    obtain ⟨t, ht, e1, e2⟩ := (hS u hu).via v hv e hf
    have h1 := (hS u hu).lo (F t).toNat (hF t ht)
    have h2 := hG t ht
    have h4 := ih (F t).toNat (hF t ht) (by omega)
    have h5 := (hS s hs).fix t ht
    rw [e1] at h5
    omega
theorem lastW_or {a b : Int} : ∀ n, lastW F T G a b n = 1000000000000 ∨ ∃ t, t < n ∧ F t = a ∧ T t = b ∧ lastW F T G a b n = G t
  | 0 => .inl rfl
  | n + 1 => by
    unfold lastW
    split
    · rename_i h; exact .inr ⟨n, by omega, h.1, h.2, rfl⟩
    · rcases lastW_or n with h | ⟨t, ht, h⟩
      · exact .inl h
      · exact .inr ⟨t, by omega, h⟩
def Snd (m : Nat) (P L H : Nat → Int) (Ds : Nat → Nat → Int) (s : (Nat → Int) × (Nat → Int)) : Prop := ∀ e, e < m → Ds (P (L e).toNat).toNat (P (H e).toNat).toNat ≤ s.1 e ∧ Ds (P (H e).toNat).toNat (P (L e).toNat).toNat ≤ s.2 e
theorem snd_init (hP : ∀ r, r < k → 0 ≤ P r ∧ P r < (k : Int)) (hE : ∀ i, i < m → 0 ≤ L i ∧ L i < H i ∧ H i < (k : Int)) (hS : ∀ s, s < k → Sol k n F T G s (Ds s)) : Snd m P L H Ds (w0U n F T G P L H, w0D n F T G P L H) := fun e he => by
  have h1 := hE e he
  have p1 := hP (L e).toNat (by omega)
  have p2 := hP (H e).toNat (by omega)
  have one : ∀ x y : Nat, x < k → y < k → Ds (P x).toNat (P y).toNat ≤ lastW F T G (P x) (P y) n := fun x y hx hy => by
    have q1 := hP x hx
    have q2 := hP y hy
    rcases lastW_or (F := F) (T := T) (G := G) (a := P x) (b := P y) n with h | ⟨t, ht, e1, e2, e3⟩
    · rw [h]; exact (hS (P x).toNat (by omega)).hi _ (by omega)
    · have a1 := (hS (P x).toNat (by omega)).fix t ht
      have a2 := (hS (P x).toNat (by omega)).zero
      rw [e1, e2] at a1
      rw [e3]
      omega
  exact ⟨one _ _ (by omega) (by omega), one _ _ (by omega) (by omega)⟩
theorem snd_step (hP : ∀ r, r < k → 0 ≤ P r ∧ P r < (k : Int)) (hF : ∀ t, t < n → (F t).toNat < k) (hG : ∀ t, t < n → 1 ≤ G t ∧ G t ≤ 1000000) (hE : ∀ i, i < m → 0 ≤ L i ∧ L i < H i ∧ H i < (k : Int)) (hS : ∀ s, s < k → Sol k n F T G s (Ds s)) {s : (Nat → Int) × (Nat → Int)} {t : Tr} (ht : TOk m L H t) (h : Snd m P L H Ds s) : Snd m P L H Ds (stT s t) := by
  obtain ⟨a1, a2, a3, a4, a5, a6, a7⟩ := ht
  have b1 := hE t.1 a1
  have b2 := hE t.2.1 a2
  have pw := hP (L t.1).toNat (by omega)
  have px := hP (H t.1).toNat (by omega)
  have py := hP (H t.2.1).toNat (by omega)
  have c1 := h t.1 a1
  have c2 := h t.2.1 a2
  have c3 := h t.2.2 a3
  rw [a5] at c2
  have t1 := ds_tri hF hG hS (s := (P (H t.1).toNat).toNat) (u := (P (L t.1).toNat).toNat) (by omega) (by omega) _ (P (H t.2.1).toNat).toNat (by omega) (Nat.le_refl _)
  have t2 := ds_tri hF hG hS (s := (P (H t.2.1).toNat).toNat) (u := (P (L t.1).toNat).toNat) (by omega) (by omega) _ (P (H t.1).toNat).toNat (by omega) (Nat.le_refl _)
  have f1 := (hS (P (H t.1).toNat).toNat (by omega)).hi (P (H t.2.1).toNat).toNat (by omega)
  have f2 := (hS (P (H t.2.1).toNat).toNat (by omega)).hi (P (H t.1).toNat).toNat (by omega)
  rw [a6, a7] at c3
  have hu : ∀ e, e < m → Ds (P (L e).toNat).toNat (P (H e).toNat).toNat ≤ stU s t e := fun e he => by
    unfold stU
    split
    · rename_i q
      subst q
      unfold upT
      rw [a6, a7]
      omega
    · exact (h e he).1
  refine fun e he => ⟨hu e he, ?_⟩
  show Ds _ _ ≤ (if e = t.2.2 then min (s.2 t.2.2) (dnT (stU s t) s.2 t) else s.2 e)
  split
  · rename_i q
    subst q
    have d1 := hu t.1 a1
    unfold dnT
    rw [a6, a7]
    omega
  · exact (h e he).2
theorem snd_run (hP : ∀ r, r < k → 0 ≤ P r ∧ P r < (k : Int)) (hF : ∀ t, t < n → (F t).toNat < k) (hG : ∀ t, t < n → 1 ≤ G t ∧ G t ≤ 1000000) (hE : ∀ i, i < m → 0 ≤ L i ∧ L i < H i ∧ H i < (k : Int)) (hS : ∀ s, s < k → Sol k n F T G s (Ds s)) {s : (Nat → Int) × (Nat → Int)} : ∀ l : List Tr, (∀ t ∈ l, TOk m L H t) → Snd m P L H Ds s → Snd m P L H Ds (runT s l) := by
  intro l
  induction l generalizing s with
  | nil => intro _ h; exact h
  | cons t l ih =>
    intro h1 h
    exact ih (s := stT s t) (fun x hx => h1 x (by simp [hx])) (snd_step hP hF hG hE hS (h1 t (by simp)) h)
theorem snd_up (hP : ∀ r, r < k → 0 ≤ P r ∧ P r < (k : Int)) (hF : ∀ t, t < n → (F t).toNat < k) (hG : ∀ t, t < n → 1 ≤ G t ∧ G t ≤ 1000000) (hE : ∀ i, i < m → 0 ≤ L i ∧ L i < H i ∧ H i < (k : Int)) (hS : ∀ s, s < k → Sol k n F T G s (Ds s)) {U V : Nat → Int} (h : Snd m P L H Ds (U, V)) {a : Nat} (ha : a < k) : ∀ i, i ≤ m → ∀ r, r < k → Ds (P a).toNat (P r).toNat ≤ cl L H U a i r
  | 0, _, r, hr => by
    have pa := hP a ha
    have pr := hP r hr
    rw [cl.eq_1]
    simp only
    split
    · rename_i e; subst e; have := (hS (P r).toNat (by omega)).zero; omega
    · exact (hS (P a).toNat (by omega)).hi _ (by omega)
  | i + 1, hi, r, hr => by
    have ih := snd_up hP hF hG hE hS h ha i (by omega)
    have pa := hP a ha
    rw [cl.eq_2]
    simp only
    split
    · rename_i e
      have b := hE i (by omega)
      have pl := hP (L i).toNat (by omega)
      have ph := hP (H i).toNat (by omega)
      have c1 := ih (H i).toNat (by omega)
      have c2 := ih (L i).toNat (by omega)
      have c3 := (h i (by omega)).1
      have c4 := ds_tri hF hG hS (s := (P a).toNat) (u := (P (L i).toNat).toNat) (by omega) (by omega) _ (P (H i).toNat).toNat (by omega) (Nat.le_refl _)
      have c5 := (hS (P a).toNat (by omega)).hi (P (H i).toNat).toNat (by omega)
      simp only at c3
      subst e
      omega
    · exact ih r hr
theorem snd_dn (hP : ∀ r, r < k → 0 ≤ P r ∧ P r < (k : Int)) (hF : ∀ t, t < n → (F t).toNat < k) (hG : ∀ t, t < n → 1 ≤ G t ∧ G t ≤ 1000000) (hE : ∀ i, i < m → 0 ≤ L i ∧ L i < H i ∧ H i < (k : Int)) (hS : ∀ s, s < k → Sol k n F T G s (Ds s)) {U V : Nat → Int} (h : Snd m P L H Ds (U, V)) {b : Nat} (hb : b < k) : ∀ i, i ≤ m → ∀ r, r < k → Ds (P r).toNat (P b).toNat ≤ cl L H V b i r
  | 0, _, r, hr => by
    have pa := hP b hb
    have pr := hP r hr
    rw [cl.eq_1]
    simp only
    split
    · rename_i e; subst e; have := (hS (P r).toNat (by omega)).zero; omega
    · exact (hS (P r).toNat (by omega)).hi _ (by omega)
  | i + 1, hi, r, hr => by
    have ih := snd_dn hP hF hG hE hS h hb i (by omega)
    have pa := hP b hb
    rw [cl.eq_2]
    simp only
    split
    · rename_i e
      have b1 := hE i (by omega)
      have pl := hP (L i).toNat (by omega)
      have ph := hP (H i).toNat (by omega)
      have c1 := ih (H i).toNat (by omega)
      have c2 := ih (L i).toNat (by omega)
      have c3 := (h i (by omega)).2
      have c4 := ds_tri hF hG hS (s := (P (H i).toNat).toNat) (u := (P (L i).toNat).toNat) (by omega) (by omega) _ (P b).toNat (by omega) (Nat.le_refl _)
      have c5 := (hS (P (H i).toNat).toNat (by omega)).hi (P b).toNat (by omega)
      simp only at c3
      subst e
      omega
    · exact ih r hr
theorem meet_is (E : CEnv k n m F T G P L H) (hun : ∀ i j, i < n → j < n → F i = F j → T i = T j → i = j) (hS : ∀ s, s < k → Sol k n F T G s (Ds s)) {U V : Nat → Int} (hUV : runT (w0U n F T G P L H, w0D n F T G P L H) (allT m L H m) = (U, V)) (h0U : InF m (w0U n F T G P L H)) (h0V : InF m (w0D n F T G P L H)) {a b : Nat} (ha : a < k) (hb : b < k) :
    (mt (cl L H U a m) (cl L H V b m) k).2 = Ds (P a).toNat (P b).toNat := by
  have hE := E.ei
  have hP : ∀ r, r < k → 0 ≤ P r ∧ P r < (k : Int) := fun r hr => (each_in k E.each r hr).1
  have hF : ∀ t, t < n → (F t).toNat < k := fun t ht => by
    obtain ⟨x, y, e, _, _, _, h1, _⟩ := E.arc t ht
    omega
  have hok : ∀ t ∈ allT m L H m, TOk m L H t := allT_ok E.ed E.chd.2 m
  have hIn := runT_in (s := (w0U n F T G P L H, w0D n F T G P L H)) h0U h0V _ hok
  have hle : ∀ e, U e ≤ w0U n F T G P L H e ∧ V e ≤ w0D n F T G P L H e := fun e => by
    have := runT_le (s := (w0U n F T G P L H, w0D n F T G P L H)) (j := e) (allT m L H m)
    rw [hUV] at this
    exact this
  have hT : ∀ t, TOk m L H t → okT U V t := fun t ht => by
    have := runT_ok (s := (w0U n F T G P L H, w0D n F T G P L H)) hE _ hok (allT_sorted E.ed m (Nat.le_refl _)) t (tok_mem E.ed ht)
    rw [hUV] at this
    exact this
  have hSn := snd_run hP hF E.gt hE hS _ hok (snd_init hP hE hS)
  rw [hUV] at hIn hSn
  have hU : InF m U := hIn.1
  have hV : InF m V := hIn.2
  have pa := hP a ha
  have pb := hP b hb
  apply Int.le_antisymm
  · -- no longer
    have up : ∀ N v, v < k → (Ds (P a).toNat (P v).toNat).toNat ≤ N → (mt (cl L H U a m) (cl L H V v m) k).2 ≤ Ds (P a).toNat (P v).toNat := by
      intro N
      induction N with
      | zero =>
        intro v hv hN
        have pv := hP v hv
        have l0 := (hS (P a).toNat (by omega)).lo (P v).toNat (by omega)
        by_cases e : (P v).toNat = (P a).toNat
        · have ev : v = a := E.inj v a hv ha (by omega)
          subst ev
          have z1 := cl_zero (s := v) hE hU m (Nat.le_refl _)
          have z2 := cl_zero (s := v) hE hV m (Nat.le_refl _)
          have := (mt_leS (A := cl L H U v m) (B := cl L H V v m) k).2 v hv
          omega
        · obtain ⟨t, ht, e1, e2⟩ := (hS (P a).toNat (by omega)).via (P v).toNat (by omega) e (by omega)
          have h1 := (hS (P a).toNat (by omega)).lo (F t).toNat (hF t ht)
          have h2 := E.gt t ht
          omega
      | succ N ih =>
        intro v hv hN
        have pv := hP v hv
        have l0 := (hS (P a).toNat (by omega)).lo (P v).toNat (by omega)
        have top := (mt_leS (A := cl L H U a m) (B := cl L H V v m) k).1
        by_cases e : (P v).toNat = (P a).toNat
        · have ev : v = a := E.inj v a hv ha (by omega)
          subst ev
          have z1 := cl_zero (s := v) hE hU m (Nat.le_refl _)
          have z2 := cl_zero (s := v) hE hV m (Nat.le_refl _)
          have := (mt_leS (A := cl L H U v m) (B := cl L H V v m) k).2 v hv
          omega
        by_cases hf : Ds (P a).toNat (P v).toNat < 1000000000000
        rotate_left
        · omega
        obtain ⟨t, ht, e1, e2⟩ := (hS (P a).toNat (by omega)).via (P v).toNat (by omega) e hf
        have h1 := (hS (P a).toNat (by omega)).lo (F t).toNat (hF t ht)
        have h2 := E.gt t ht
        obtain ⟨x, y, ed, hx, hy, hed, ⟨px, q1, q2⟩, ⟨py, q3, q4⟩, _, hor⟩ := E.arc t ht
        have yv : y = v := E.inj y v hy hv (by omega)
        subst yv
        have px2 : (P x).toNat = (F t).toNat := by rw [px]
        have ihx := ih x hx (by rw [px2]; omega)
        rw [px2] at ihx
        by_cases hfx : (mt (cl L H U a m) (cl L H V x m) k).2 < 1000000000000
        rotate_left
        · omega
        obtain ⟨r, hr, er⟩ := mt_atS k hfx
        have wt := lastW_at (F := F) (T := T) (G := G) (a := P x) (b := P y) (k := t) n (fun j hj h3 h4 => hun j t hj ht (by rw [h3, px]) (by rw [h4, py])) ht px.symm py.symm
        rcases hor with ⟨hxy, hL, hH⟩ | ⟨hxy, hL, hH⟩
        · have w := way_up (a := a) E.chd E.ed hE hU hV hT _ ed r hed hr (Nat.le_refl _)
          have w1 := (hle ed).1
          unfold w0U at w1
          rw [hL, hH, Int.toNat_natCast, Int.toNat_natCast, wt] at w1
          rw [hL, hH, Int.toNat_natCast, Int.toNat_natCast] at w
          omega
        · have w := way_down (a := a) (r := r) E.ed hE hV hed
          have w1 := (hle ed).2
          unfold w0D at w1
          rw [hL, hH, Int.toNat_natCast, Int.toNat_natCast, wt] at w1
          rw [hL, hH, Int.toNat_natCast, Int.toNat_natCast] at w
          have w2 := (mt_leS (A := cl L H U a m) (B := cl L H V y m) k).2 r hr
          omega
    exact up _ b hb (Nat.le_refl _)
  · by_cases hf : (mt (cl L H U a m) (cl L H V b m) k).2 < 1000000000000
    · obtain ⟨r, hr, er⟩ := mt_atS k hf
      have pr := hP r hr
      have s1 := snd_up hP hF E.gt hE hS hSn ha m (Nat.le_refl _) r hr
      have s2 := snd_dn hP hF E.gt hE hS hSn hb m (Nat.le_refl _) r hr
      have s3 := ds_tri hF E.gt hS (s := (P a).toNat) (u := (P r).toNat) (by omega) (by omega) _ (P b).toNat (by omega) (Nat.le_refl _)
      omega
    · have := (hS (P a).toNat (by omega)).hi (P b).toNat (by omega)
      omega
end

end Go.Proofs.YtokaechbmnbbiabGreat

/-
  Plain: the steps by which a climb comes to a rank, as the program keeps them and as the document looks for them.
-/
set_option linter.unusedVariables false
set_option linter.unusedSimpArgs false
namespace Go.Proofs.YtokaechbmnbbiabGreat

section
variable {k m : Nat} {L H W : Nat → Int}
theorem cl_last {s : Nat} (he : edB (k : Int) L H m = true) (hE : ∀ i, i < m → 0 ≤ L i ∧ L i < H i ∧ H i < (k : Int)) : ∀ i, i ≤ m → ∀ q, q ≠ s → cl L H W s i q < 1000000000000 → ∃ j, j < i ∧ (H j).toNat = q ∧ cl L H W s m (L j).toNat + W j = cl L H W s i q
  | 0, _, q, hq, h => by
    unfold cl at h
    rw [if_neg hq] at h
    omega
  | i + 1, hi, q, hq, h => by
    by_cases e : q = (H i).toNat
    · have hv : cl L H W s (i + 1) q = min (cl L H W s i (H i).toNat) (min 1000000000000 (cl L H W s i (L i).toNat + W i)) := by
        rw [e]; conv => lhs; unfold cl
        rw [if_pos rfl]
      by_cases hl : cl L H W s i (H i).toNat ≤ min 1000000000000 (cl L H W s i (L i).toNat + W i)
      · have hv2 : cl L H W s (i + 1) q = cl L H W s i q := by rw [hv, e]; omega
        rw [hv2] at h ⊢
        obtain ⟨j, hj, r⟩ := cl_last he hE i (by omega) q hq h
        exact ⟨j, by omega, r⟩
      · refine ⟨i, by omega, e.symm, ?_⟩
        have h3 := hE i (by omega)
        have hs := cl_stay (W := W) (s := s) (i := i) (r := (L i).toNat) he hE (by omega) (m - i) (by omega)
        rw [show i + (m - i) = m by omega] at hs
        rw [hs]
        omega
    · have hv : cl L H W s (i + 1) q = cl L H W s i q := by conv => lhs; unfold cl
                                                            rw [if_neg e]
      rw [hv] at h ⊢
      obtain ⟨j, hj, r⟩ := cl_last he hE i (by omega) q hq h
      exact ⟨j, by omega, r⟩
end

def fitE (D W L H : Nat → Int) (j : Nat) : Bool := decide (D (H j).toNat < 1000000000000) && decide (D (L j).toNat + W j = D (H j).toNat)
def lstE (D W L H : Nat → Int) : Nat → Nat → Option Nat
  | 0, _ => none
  | j + 1, q => match lstE D W L H j q with
    | some i => some i
    | none => if fitE D W L H j = true ∧ (H j).toNat = q then some j else none
section
variable {D W L H : Nat → Int}
theorem lstE_old {j q i : Nat} (h : lstE D W L H j q = some i) : lstE D W L H (j + 1) q = some i := by simp [lstE, h]
theorem lstE_new {j : Nat} (h : lstE D W L H j (H j).toNat = none) (hf : fitE D W L H j = true) (q : Nat) : lstE D W L H (j + 1) q = if q = (H j).toNat then some j else lstE D W L H j q := by
  by_cases e : q = (H j).toNat
  · subst e
    simp [lstE, h, hf]
  · rw [if_neg e]
    cases hq : lstE D W L H j q with
    | some i => exact lstE_old hq
    | none => simp only [lstE, hq]; rw [if_neg (fun h => e h.2.symm)]
theorem lstE_same {j : Nat} (h : fitE D W L H j = false ∨ (lstE D W L H j (H j).toNat).isSome = true) (q : Nat) : lstE D W L H (j + 1) q = lstE D W L H j q := by
  cases hq : lstE D W L H j q with
  | some i => exact lstE_old hq
  | none =>
    simp only [lstE, hq]
    refine if_neg (fun hh => ?_)
    rcases h with h | h
    · rw [h] at hh; simp at hh
    · rw [hh.2, hq] at h
      simp at h
theorem lstE_no {n q : Nat} : lstE D W L H n q = none → ∀ j, j < n → ¬ (fitE D W L H j = true ∧ (H j).toNat = q) := by
  induction n with
  | zero => intro _ j hj; omega
  | succ n ih =>
    intro h j hj hh
    cases hq : lstE D W L H n q with
    | some i => rw [lstE_old hq] at h; cases h
    | none =>
      by_cases e : j = n
      · subst e
        simp only [lstE, hq] at h
        rw [if_pos hh] at h
        cases h
      · exact ih hq j (by omega) hh
theorem lstE_is {n q i : Nat} : lstE D W L H n q = some i → i < n ∧ fitE D W L H i = true ∧ (H i).toNat = q ∧ ∀ j, j < i → ¬ (fitE D W L H j = true ∧ (H j).toNat = q) := by
  induction n with
  | zero => intro h; simp [lstE] at h
  | succ n ih =>
    intro h
    cases hq : lstE D W L H n q with
    | some i' =>
      rw [lstE_old hq] at h
      cases h
      obtain ⟨h1, h2⟩ := ih hq
      exact ⟨by omega, h2⟩
    | none =>
      simp only [lstE, hq] at h
      split at h
      · next hf =>
        cases h
        refine ⟨by omega, hf.1, hf.2, ?_⟩
        exact lstE_no hq
      · cases h
end
def chE (D W L H : Nat → Int) (m : Nat) : Nat → Nat → List Nat
  | 0, _ => []
  | f + 1, q => match lstE D W L H m q with
    | some i => i :: chE D W L H m f (L i).toNat
    | none => []

structure Clb (k m : Nat) (L H W : Nat → Int) (s : Nat) (D : Nat → Int) : Prop where
  ed : edB (k : Int) L H m = true
  eds : ∀ i, i < m → 0 ≤ L i ∧ L i < H i ∧ H i < (k : Int)
  w : ∀ i, i < m → 0 ≤ W i ∧ W i ≤ 1000000000000
  zero : D s = 0
  low : ∀ q, q < s → D q = 1000000000000
  inn : ∀ q, 0 ≤ D q ∧ D q ≤ 1000000000000
  last : ∀ q, q ≠ s → D q < 1000000000000 → ∃ j, j < m ∧ (H j).toNat = q ∧ D (L j).toNat + W j = D q
theorem clb_cl {k m : Nat} {L H W : Nat → Int} {s : Nat} (he : edB (k : Int) L H m = true) (hE : ∀ i, i < m → 0 ≤ L i ∧ L i < H i ∧ H i < (k : Int)) (hW : InF m W) : Clb k m L H W s (cl L H W s m) :=
  ⟨he, hE, hW, cl_zero hE hW m (Nat.le_refl _), fun q hq => cl_low hE hW m (Nat.le_refl _) q hq, fun q => cl_in s hW m (Nat.le_refl _) q, fun q hq h => cl_last he hE m (Nat.le_refl _) q hq h⟩
section
variable {k m : Nat} {L H W : Nat → Int} {s : Nat} {D : Nat → Int}
theorem fitE_iff {j : Nat} : fitE D W L H j = true ↔ D (H j).toNat < 1000000000000 ∧ D (L j).toNat + W j = D (H j).toNat := by simp [fitE]
theorem Clb.at (C : Clb k m L H W s D) : lstE D W L H m s = none := by
  cases h : lstE D W L H m s with
  | none => rfl
  | some i =>
    obtain ⟨h1, h2, h3, _⟩ := lstE_is h
    have h4 := fitE_iff.1 h2
    rw [h3, C.zero] at h4
    have h5 := C.eds i h1
    have h6 := C.w i h1
    have h7 := C.low (L i).toNat (by omega)
    omega
theorem Clb.ex (C : Clb k m L H W s D) {q : Nat} (hq : q ≠ s) (h : D q < 1000000000000) : ∃ i, lstE D W L H m q = some i := by
  cases e : lstE D W L H m q with
  | some i => exact ⟨i, rfl⟩
  | none =>
    obtain ⟨j, hj, h1, h2⟩ := C.last q hq h
    exact absurd ⟨fitE_iff.2 (by rw [h1]; exact ⟨h, h2⟩), h1⟩ (lstE_no e j hj)
theorem Clb.step (C : Clb k m L H W s D) {q i : Nat} (h : lstE D W L H m q = some i) : i < m ∧ (H i).toNat = q ∧ s ≤ (L i).toNat ∧ (L i).toNat < q ∧ q < k ∧ D (L i).toNat < 1000000000000 ∧ W i < 1000000000000 ∧ D (L i).toNat + W i = D q ∧ D q < 1000000000000 := by
  obtain ⟨h1, h2, h3, _⟩ := lstE_is h
  obtain ⟨h4, h5⟩ := fitE_iff.1 h2
  rw [h3] at h4 h5
  have h6 := C.eds i h1
  have h7 := C.w i h1
  have h8 := C.inn (L i).toNat
  refine ⟨h1, h3, ?_, by omega, by omega, by omega, by omega, h5, h4⟩
  rcases Nat.lt_or_ge (L i).toNat s with h9 | h9
  · have := C.low _ h9
    omega
  · exact h9
def docT (D W L H : Nat → Int) (m q x : Nat) : Bool := hsB m L H (x : Int) (q : Int) && (decide (D x ≠ 1000000000000) && decide (addF (D x) (W (fnd L H (x : Int) (q : Int) m)) = D q))
theorem Clb.doc (C : Clb k m L H W s D) {q i : Nat} (h : lstE D W L H m q = some i) : docT D W L H m q (L i).toNat = true ∧ fnd L H (((L i).toNat : Nat) : Int) (q : Int) m = i ∧ ∀ x, x < (L i).toNat → docT D W L H m q x = false := by
  have S := C.step h
  obtain ⟨h1, h2, h3, hmin⟩ := lstE_is h
  have h6 := C.eds i h1
  have eL : (((L i).toNat : Nat) : Int) = L i := by omega
  have eH : (q : Int) = H i := by omega
  have hf : fnd L H (((L i).toNat : Nat) : Int) (q : Int) m = i := fnd_is C.ed h1 eL.symm eH.symm
  refine ⟨?_, hf, fun x hx => ?_⟩
  · unfold docT
    rw [hf]
    have : hsB m L H (((L i).toNat : Nat) : Int) (q : Int) = true := hsB_iff.2 ⟨i, h1, eL.symm, eH.symm⟩
    rw [this]
    simp only [Bool.true_and, Bool.and_eq_true, decide_eq_true_eq]
    unfold addF
    omega
  · cases e : docT D W L H m q x with
    | false => rfl
    | true =>
      unfold docT at e
      simp only [Bool.and_eq_true, decide_eq_true_eq] at e
      obtain ⟨e1, e2, e3⟩ := e
      have hat := fnd_at m (hsB_iff.1 e1)
      generalize fnd L H (x : Int) (q : Int) m = j at hat e3
      obtain ⟨j1, j2, j3⟩ := hat
      have hx0 := C.inn x
      have hw := C.w j j1
      have eq1 : D x + W j = D q := by unfold addF at e3; omega
      have jl : (L j).toNat = x := by omega
      have jh : (H j).toNat = q := by omega
      have hji : j < i := by
        rcases Nat.lt_or_ge j i with hh | hh
        · exact hh
        · have := ed_le C.ed hh j1
          omega
      exact absurd ⟨fitE_iff.2 (by rw [jl, jh]; exact ⟨S.2.2.2.2.2.2.2.2, eq1⟩), jh⟩ (hmin j hji)
theorem chE_none {f q : Nat} (h : lstE D W L H m q = none) : chE D W L H m f q = [] := by
  cases f with
  | zero => rfl
  | succ f => simp [chE, h]
theorem chE_some {f q i : Nat} (h : lstE D W L H m q = some i) : chE D W L H m (f + 1) q = i :: chE D W L H m f (L i).toNat := by simp [chE, h]
theorem chE_fuel (C : Clb k m L H W s D) : ∀ f g q, q ≤ f → q ≤ g → chE D W L H m f q = chE D W L H m g q
  | f, g, q, hf, hg => by
    cases h : lstE D W L H m q with
    | none => rw [chE_none h, chE_none h]
    | some i =>
      have S := C.step h
      match f, g, hf, hg with
      | 0, _, hf, _ => omega
      | _, 0, _, hg => omega
      | f + 1, g + 1, hf, hg => rw [chE_some h, chE_some h, chE_fuel C f g (L i).toNat (by omega) (by omega)]
theorem chE_len (C : Clb k m L H W s D) : ∀ f q, (chE D W L H m f q).length ≤ q
  | 0, q => by simp [chE]
  | f + 1, q => by
    cases h : lstE D W L H m q with
    | none => rw [chE_none h]; simp
    | some i =>
      have S := C.step h
      rw [chE_some h]
      have := chE_len C f (L i).toNat
      simp
      omega
theorem chE_in (C : Clb k m L H W s D) : ∀ f q, ∀ i ∈ chE D W L H m f q, i < m ∧ W i < 1000000000000 ∧ (H i).toNat ≤ q
  | 0, q => fun i hi => by simp [chE] at hi
  | f + 1, q => fun i hi => by
    cases h : lstE D W L H m q with
    | none => rw [chE_none h] at hi; simp at hi
    | some j =>
      have S := C.step h
      rw [chE_some h] at hi
      rcases List.mem_cons.1 hi with rfl | hi
      · exact ⟨S.1, S.2.2.2.2.2.2.1, by omega⟩
      · have := chE_in C f (L j).toNat i hi
        exact ⟨this.1, this.2.1, by omega⟩
end

end Go.Proofs.YtokaechbmnbbiabGreat

/-
  Plain: a rank lies within.
-/
set_option linter.unusedVariables false
set_option linter.unusedSimpArgs false
namespace Go.Proofs.YtokaechbmnbbiabGreat
open Go.RowKit Go.Deep Go.Joins
attribute [local go_sem ↓] Go.wp_at_zero Go.wp_at_succ

theorem rk_in {k : Nat} {P : Nat → Int} (h : okR k P = true) {a : Nat} (ha : a < k) : 0 ≤ rk P (-1) k a ∧ rk P (-1) k a < (k : Int) := by
  simp [okR] at h
  exact ⟨(rk_sn P k a).1 (each_all h.2.2 a ha), (rk_hi P k a).1⟩

end Go.Proofs.YtokaechbmnbbiabGreat

/-
  Does a metric fit: the document's helper.
-/
set_option linter.unusedVariables false
set_option linter.unusedSimpArgs false
namespace Go.Proofs.YtokaechbmnbbiabGreat
open Go.RowKit Go.Deep Go.Joins
attribute [local go_sem ↓] Go.wp_at_zero Go.wp_at_succ

def MOk (k m : Nat) (L H : Nat → Int) (u : Nat) (U : Nat → Int) (v : Nat) (V : Nat → Int) : Prop := Chd (k : Int) m L H ∧ u = m ∧ v = m ∧ InF m U ∧ InF m V ∧ ∀ t ∈ allT m L H m, okT U V t
theorem box2m {w W : World} {a0 a1 c0 c1 : Value} {s t : TypeId} (h : Below (w.heap.size + 2) ((w.alloc (.cells #[a0, a1] s)).alloc (.cells #[c0, c1] t)) W) :
    (W.cell? ⟨w.heap.size, 0, none⟩ = some a0 ∧ W.cell? ⟨w.heap.size, 1, none⟩ = some a1) ∧ (W.cell? ⟨w.heap.size + 1, 0, none⟩ = some c0 ∧ W.cell? ⟨w.heap.size + 1, 1, none⟩ = some c1) ∧ w.heap.size + 2 ≤ W.heap.size := by
  obtain ⟨h1, h2, _, h4⟩ := box22 h
  exact ⟨h1, h2, h4⟩

end Go.Proofs.YtokaechbmnbbiabGreat

/-
  A map from ranks to steps, told by which step each rank has.
-/
set_option linter.unusedVariables false
set_option linter.unusedSimpArgs false
namespace Go.Proofs.YtokaechbmnbbiabGreat
open Go.ChangeShapes Go.WideShapes Go.ChangeAt Go.RowKit Go.Maps

theorem Tryz.keyLawI : Keyed Tryz.prog 2 := int_keyed Tryz.underlying2
theorem Tryz.zeroStep (w : World) : (zeroValue 104).run Tryz.prog w = .ok (.agg #[.int .i64 0, .bool false]) w := by kernel_rfl
def stC (i : Int) (u : Bool) : Int := 2 * i + (if u = true then 1 else 0)
def stR : Value → Option (DataW Unit × List MemPlace)
  | .agg a => match a.toList with
    | [.int .i64 i, .bool u] => some (.lit (.int .i64 (stC i u)), [])
    | _ => none
  | _ => none
theorem stR_agg (i : Int) (u : Bool) : stR (.agg #[.int .i64 i, .bool u]) = some (.lit (.int .i64 (stC i u)), []) := rfl
theorem stR_inv {v : Value} {x : DataW Unit} {ps : List MemPlace} (h : stR v = some (x, ps)) : ∃ i u, v = .agg #[.int .i64 i, .bool u] ∧ x = .lit (.int .i64 (stC i u)) := by
  unfold stR at h
  split at h
  · next a =>
    split at h
    · next i u e =>
      refine ⟨i, u, ?_, ?_⟩
      · congr 1
        apply Array.ext'
        exact e
      · simp at h
        exact h.1.symm
    · cases h
  · cases h
theorem stC_inj {i j : Int} {u v : Bool} (h : stC i u = stC j v) : i = j ∧ u = v := by
  unfold stC at h
  cases u <;> cases v <;> simp at h ⊢ <;> omega
def SM (W : World) (b n : Nat) (M : Nat → Option Nat) (up : Bool) : Prop :=
  ∃ D, W.ownsMap Tryz.prog 2 stR b n D ∧ IsMap D ∧ ∀ q : Nat, Maps.has D (.int .i64 (q : Int)) = (M q).isSome ∧ ∀ i, M q = some i → D.atKey (.int .i64 (q : Int)) (.lit (.int .i64 (stC 0 false))) = .lit (.int .i64 (stC (i : Int) up))
theorem sm_new (w : World) (up : Bool) : SM (w.alloc (.map #[] 0)) w.heap.size 0 (fun _ => none) up :=
  ⟨.map [], World.ownsMap_made w Tryz.prog 2 stR, isMap_empty, fun q => ⟨rfl, fun i h => by cases h⟩⟩
theorem SM.congr {W : World} {b n : Nat} {M M' : Nat → Option Nat} {up : Bool} (h : SM W b n M up) (e : ∀ q, M q = M' q) : SM W b n M' up := by
  have : M = M' := funext e
  rw [← this]; exact h
theorem SM.mono {W : World} {b n n' : Nat} {M : Nat → Option Nat} {up : Bool} (h : SM W b n M up) (hn : n ≤ n') : SM W b n' M up := by
  obtain ⟨D, h1, h2⟩ := h
  exact ⟨D, h1.mono hn, h2⟩
theorem SM.lt {W : World} {b n : Nat} {M : Nat → Option Nat} {up : Bool} (h : SM W b n M up) : b < W.heap.size := by
  obtain ⟨D, h1, _⟩ := h
  exact h1.lt
theorem SM.below {W W' : World} {b n : Nat} {M : Nat → Option Nat} {up : Bool} (h : SM W b n M up) (hb : Below W.heap.size W W') : SM W' b n M up := by
  obtain ⟨D, h1, h2⟩ := h
  exact ⟨D, ownsMap_below h1 hb, h2⟩
theorem SM.grown {W W' : World} {b n g : Nat} {M : Nat → Option Nat} {up : Bool} (h : SM W b n M up) (hg : W.grownBy W' (some g)) (hne : b ≠ g) : SM W' b n M up := by
  obtain ⟨D, h1, h2⟩ := h
  exact ⟨D, h1.kept hg (by simp; exact hne), h2⟩
theorem wf_rank {q : Nat} (h : q ≤ 1000) : (Lit.int .i64 (q : Int)).wf = true := WalkArith.wf_i64 (by omega)
theorem SM.look {W : World} {b n : Nat} {M : Nat → Option Nat} {up : Bool} (h : SM W b n M up) {q : Nat} (hq : q ≤ 1000) :
    ∃ v, (∀ d, (Instr.lookup 146 (.map (some b)) (.int .i64 (q : Int)) true).run Tryz.prog (W.drewN d) = .ok (.tuple #[v, .bool (M q).isSome]) (W.drewN d)) ∧ (∃ i u, v = .agg #[.int .i64 i, .bool u]) ∧ ∀ i, M q = some i → v = .agg #[.int .i64 (i : Int), .bool up] := by
  obtain ⟨D, h1, _, h3⟩ := h
  have run : ∀ d, ∃ v ps, (Instr.lookup 146 (.map (some b)) (.int .i64 (q : Int)) true).run Tryz.prog (W.drewN d) = .ok (.tuple #[v, .bool (Maps.has D (.int .i64 (q : Int)))]) (W.drewN d) ∧ stR v = some (D.atKey (.int .i64 (q : Int)) (.lit (.int .i64 (stC 0 false))), ps) := fun d =>
    (ownsMap_block (w' := W.drewN d) h1 rfl).look_ok Tryz.keyLawI Tryz.underlying146 (Tryz.zeroStep _) (stR_agg 0 false) (keyOf_int_mk Tryz.underlying2 (wf_rank hq))
  obtain ⟨v, ps, hr, hv⟩ := run 0
  obtain ⟨i, u, e1, e2⟩ := stR_inv hv
  refine ⟨v, fun d => ?_, ⟨i, u, e1⟩, fun j hj => ?_⟩
  · obtain ⟨v', ps', hr', hv'⟩ := run d
    obtain ⟨i', u', e1', e2'⟩ := stR_inv hv'
    rw [e2] at e2'
    have : stC i u = stC i' u' := by simpa using e2'
    obtain ⟨rfl, rfl⟩ := stC_inj this
    rw [hr', e1', ← e1, (h3 q).1]
  · have := (h3 q).2 j hj
    rw [e2] at this
    have : stC i u = stC (j : Int) up := by simpa using this
    obtain ⟨rfl, rfl⟩ := stC_inj this
    exact e1
theorem wpList_smput {w : World} {ops : Array Oper} {rest : List Oper} {o : Oper} {a : Act} {Q : Exit → Act → World → Prop} (hg : o.guard = none) (m x v : Operand) (hop : o.op = Op.mapUpdate 146 m x v) (b n : Nat) {M : Nat → Option Nat} {up : Bool} (hm : a.eval m = .map (some b)) (h : SM w b n M up) (hn : n ≤ 1000000) (q i : Nat) (hq : q ≤ 1000) (hx : a.eval x = .int .i64 (q : Int)) (hv : a.eval v = .agg #[.int .i64 (i : Int), .bool up])
    (hK : ∀ w', SM w' b (n + 1) (fun z => if z = q then some i else M z) up → w.grownBy w' (some b) → wpList Tryz.prog ops Q rest (a.put o.dst undef) w') : wpList Tryz.prog ops Q (o :: rest) a w := by
  obtain ⟨D, h1, h2, h3⟩ := h
  refine wpList_mapUpdate_own w hg m x v 146 hop 2 104 Tryz.keyLawI Tryz.underlying146 stR b n D hm h1 (by unfold maxLen; omega) _ _ _ hx hv (keyOf_int_mk Tryz.underlying2 (wf_rank hq)) _ [] (stR_agg _ _) fun w' k1 k2 => hK w' ⟨_, k1, h2.put _ _, fun z => ?_⟩ k2
  by_cases e : z = q
  · subst e
    simp only [if_pos]
    have hk : WideAt.IsKeyLit (Lit.int .i64 (z : Int)) := trivial
    exact ⟨by rw [has_put_same h2 hk]; rfl, fun j hj => by cases hj; exact atKey_put_same h2 hk _ _⟩
  · simp only [if_neg e]
    have hne : Lit.int .i64 (z : Int) ≠ Lit.int .i64 (q : Int) := fun h => by
      have h' : (z : Int) = (q : Int) := by simpa using h
      omega
    rw [has_put_other hne, atKey_put_other hne]
    exact h3 z

end Go.Proofs.YtokaechbmnbbiabGreat

/-
  The program's weights in their bounds.
-/
set_option linter.unusedVariables false
set_option linter.unusedSimpArgs false
namespace Go.Proofs.YtokaechbmnbbiabGreat
open Go.RowKit
attribute [local go_sem ↓] Go.wp_at_zero Go.wp_at_succ

set_option maxHeartbeats 1000000 in
theorem weightsOk_any (ao : Option Addr) (n cap : Nat) (f : Nat → Int) (c : Nat) (hn : n ≤ 1048576) (hc : c ≤ 1048576) (w : World) (hr : IRow w ao n f) :
    Calls Tryz.prog 47 #[.slice ao n cap, .int .i64 (c : Int)] w fun e w' => BAns e (n = c ∧ InF c f) ∧ w' = w := by
  by_cases hnc : n = c
  rotate_left
  · have HN : Hid (¬ (n = c ∧ InF c f)) := fun h => hnc h.1
    have hnc' : ¬ (n : Int) = (c : Int) := by omega
    go_enter Tryz.func47, Tryz.ntmps47
    go_wp2
    go_ret
    exact ⟨bans_no HN.out, rfl⟩
  subst hnc
  refine (show Calls Tryz.prog 47 #[.slice ao n cap, .int .i64 (n : Int)] w (fun e w' => BAns e (InF n f) ∧ w' = w) from ?_).mono (fun e w' ⟨⟨b, h1, h2⟩, h3⟩ => ⟨⟨b, h1, h2.trans ⟨fun h => ⟨rfl, h⟩, fun h => h.2⟩⟩, h3⟩)
  go_enter Tryz.func47, Tryz.ntmps47
  go_wp2
  go_loop [13] (fun x => ∃ k : Nat, k ≤ n ∧ x = .int .i64 k ∧ InF k f) (fun x => n - (intOf x).toNat)
  case atStart => exact ⟨0, Nat.zero_le _, rfl, fun i hi => by omega⟩
  case round =>
    obtain ⟨k, hk, rfl, hall⟩ := hrel
    have HA : Hid (InF k f) := hall
    clear hall
    by_cases hlt : k < n
    rotate_left
    · have hkn : k = n := by omega
      subst hkn
      go_wp2
      go_ret
      exact ⟨bans_yes HA.out, rfl⟩
    obtain ⟨b, o, hao, c0⟩ := hr k hlt
    subst hao
    have hk1 : (0 : Int) ≤ (k : Int) := by omega
    have hk2 : (k : Int) < (n : Int) := by omega
    by_cases h1 : f k < 0
    · have HN : Hid (¬ InF n f) := fun h => by have := h k hlt; omega
      go_wp2
      go_ret
      exact ⟨bans_no HN.out, rfl⟩
    by_cases h2 : 1000000000000 < f k
    · have HN : Hid (¬ InF n f) := fun h => by have := h k hlt; omega
      go_wp2
      go_ret
      exact ⟨bans_no HN.out, rfl⟩
    have HI : Hid (InF (k + 1) f) := fun i hi => by
      by_cases e : i = k
      · subst e; omega
      · exact HA.out i (by omega)
    go_wp2
    go_roundw
    case rel => exact ⟨k + 1, by omega, by go_num, HI.out⟩
    case measure => simp [intOf]; omega

end Go.Proofs.YtokaechbmnbbiabGreat

/-
  The sums of a climb, the program's: an array that is a local value, a closure.
-/
set_option linter.unusedVariables false
set_option linter.unusedSimpArgs false
namespace Go.Proofs.YtokaechbmnbbiabGreat
open Go.RowKit Go.Deep Go.Joins
attribute [local go_sem ↓] Go.wp_at_zero Go.wp_at_succ

def arr (f : Nat → Int) : Array Value := ((List.range 24).map fun j => Value.int .i64 (f j)).toArray
theorem arr_size (f : Nat → Int) : (arr f).size = 24 := by simp [arr]
theorem arr_at (f : Nat → Int) {j : Nat} (hj : j < 24) : (arr f)[j]? = some (.int .i64 (f j)) := by
  simp only [arr, List.getElem?_toArray, List.getElem?_map, List.getElem?_range hj, Option.map_some]
theorem arr_ext {f g : Nat → Int} (h : ∀ j, j < 24 → f j = g j) : arr f = arr g := by
  simp only [arr]
  congr 1
  apply List.map_congr_left
  intro j hj
  rw [h j (List.mem_range.1 hj)]
theorem arr_set (f : Nat → Int) {i : Nat} (v : Int) (hi : i < 24) : (arr f).setIfInBounds i (.int .i64 v) = arr (fun j => if j = i then v else f j) := by
  apply Array.ext_getElem?
  intro j
  by_cases hj : j < 24
  · rw [arr_at _ hj, Array.getElem?_setIfInBounds]
    by_cases e : i = j
    · subst e
      rw [if_pos rfl, if_pos (by rw [arr_size]; exact hi)]
      simp
    · rw [if_neg e, arr_at _ hj]
      have : j ≠ i := fun h => e h.symm
      simp [this]
  · rw [Array.getElem?_eq_none (by rw [Array.size_setIfInBounds, arr_size]; omega), Array.getElem?_eq_none (by rw [arr_size]; omega)]
def AHas (w : World) (b : Nat) (f : Nat → Int) : Prop := w.heap[b]? = some (.cells (arr f) 144 (0, 0))
theorem AHas.cell {w : World} {b : Nat} {f : Nat → Int} (h : AHas w b f) {j : Nat} (hj : j < 24) : w.cell? ⟨b, j, none⟩ = some (.int .i64 (f j)) := by
  rw [cell_of_row w b j _ _ _ h, arr_at f hj]
theorem AHas.frozen {w : World} {b : Nat} {f : Nat → Int} (h : AHas w b f) (j : Nat) : w.frozen? ⟨b, j, none⟩ = false := frozen_of_row w b j _ _ h
theorem AHas.lt {w : World} {b : Nat} {f : Nat → Int} (h : AHas w b f) : b < w.heap.size := (Array.getElem?_eq_some_iff.1 h).1
theorem AHas.of_block {w w' : World} {b : Nat} {f : Nat → Int} (h : AHas w b f) (e : w'.heap[b]? = w.heap[b]?) : AHas w' b f := e.trans h
theorem AHas.below {w w' : World} {b B : Nat} {f : Nat → Int} (h : AHas w b f) (hb : Below B w w') (hB : b < B) : AHas w' b f := h.of_block (hb.block b hB)
theorem AHas.congr {w : World} {b : Nat} {f g : Nat → Int} (h : AHas w b f) (e : ∀ j, j < 24 → f j = g j) : AHas w b g := by
  unfold AHas; rw [← arr_ext e]; exact h
theorem AHas.set {w : World} {b : Nat} {f : Nat → Int} (h : AHas w b f) (i : Nat) (v : Int) (hi : i < 24) : AHas (w.setCell ⟨b, i, none⟩ (.int .i64 v)) b (fun j => if j = i then v else f j) := by
  unfold AHas
  rw [heap_setCell_same w b i _ _ _ h, arr_set f v hi]
theorem arr_one (f : Nat → Int) : (arr f).all (·.oneCell') = true := by
  simp [arr, Value.oneCell']
theorem Tryz.undArr : Tryz.prog.underlying 144 = some (.array 24 2) := by kernel_rfl
theorem Tryz.infoArr (f : Nat → Int) : (Tryz.prog.info? 144).map (·.size) = some (arr f).size := by rw [arr_size]; kernel_rfl
theorem AHas.row {w : World} {b : Nat} {f : Nat → Int} (h : AHas w b f) (g : Nat → Int) : AHas (w.setRow b (arr g)) b g := setRow_heap w b _ _ _ _ h
theorem setRow_below {B : Nat} {w W : World} {g : Nat} (h : Below B w W) (hg : B ≤ g) (cs : Array Value) : Below B w (W.setRow g cs) :=
  ⟨h.os, h.tape, h.output, by rw [setRow_size]; exact h.size, fun k hk => (setRow_other W g k cs (by omega)).trans (h.block k hk)⟩
theorem ahas_new (w : World) : AHas (w.alloc (.cells (arr (fun _ => 0)) 144)) w.heap.size (fun _ => 0) := heap_alloc_new w _
set_option maxHeartbeats 2000000 in
theorem climbOk_any (po : Option Addr) (k pcap : Nat) (eo : Option Addr) (m ecap : Nat) (L H : Nat → Int) (uo : Option Addr) (u ucap : Nat) (U : Nat → Int) (vo : Option Addr) (v vcap : Nat) (V : Nat → Int) (r : Int) (hk : k ≤ 1048576) (hm : m ≤ 1048576) (hu : u ≤ 1048576) (hv : v ≤ 1048576) (w : World) (he : ERow w eo m L H) (hU : IRow w uo u U) (hV : IRow w vo v V) :
    Calls Tryz.prog 112 #[.agg #[.slice po k pcap, .slice eo m ecap], .agg #[.slice uo u ucap, .slice vo v vcap], .int .i64 r] w fun e w' => BAns e (TOld k m L H u U v V ∧ RIn k r) ∧ Below w.heap.size w w' := by
  go_enter Tryz.func112, Tryz.ntmps112
  go_wp2_with fail
  refine (edgesOk_any (k : Int) eo m ecap L H hm _ ((he.alloc _).alloc _)).mono ?_
  rcases Bool.eq_false_or_eq_true (edgesB (k : Int) m L H) with h | h
  rotate_left
  · rw [h]
    rintro e w1 ⟨rfl, hb1⟩
    have HN : Hid (¬ (TOld k m L H u U v V ∧ RIn k r)) := fun x => by rw [x.1.1] at h; cases h
    go_wp2
    go_ret
    exact ⟨bans_no HN.out, unbox2 hb1 (by simp; omega)⟩
  rw [h]
  rintro e w1 ⟨rfl, hb1⟩
  have hA1 := hb1.mono (B' := w.heap.size + 2) (by simp)
  obtain ⟨⟨q0, q1⟩, ⟨q2, q3⟩, q6⟩ := box2m hA1
  clear hb1
  go_wp2_with fail
  refine (weightsOk_any uo u ucap U m hu hm _ (((hU.alloc _).alloc _).below hA1 (by simp))).mono ?_
  rintro e w2 ⟨⟨b, rfl, hb⟩, hw2⟩
  have hw2' := hw2.symm
  subst hw2'
  clear hw2
  cases b
  · have HN : Hid (¬ (TOld k m L H u U v V ∧ RIn k r)) := fun x => by have := hb.2 ⟨x.1.2.1, x.1.2.2.2.1⟩; cases this
    clear hb
    go_wp2
    go_ret
    exact ⟨bans_no HN.out, unbox2 hA1 (by omega)⟩
  have HU : Hid (u = m ∧ InF m U) := hb.1 rfl
  clear hb
  go_wp2_with fail
  refine (weightsOk_any vo v vcap V m hv hm _ (((hV.alloc _).alloc _).below hA1 (by simp))).mono ?_
  rintro e w2 ⟨⟨b, rfl, hb⟩, hw2⟩
  have hw2' := hw2.symm
  subst hw2'
  clear hw2
  cases b
  · have HN : Hid (¬ (TOld k m L H u U v V ∧ RIn k r)) := fun x => by have := hb.2 ⟨x.1.2.2.1, x.1.2.2.2.2⟩; cases this
    clear hb
    go_wp2
    go_ret
    exact ⟨bans_no HN.out, unbox2 hA1 (by omega)⟩
  have HV : Hid (v = m ∧ InF m V) := hb.1 rfl
  have HT : Hid (TOld k m L H u U v V) := ⟨h, HU.out.1, HV.out.1, HU.out.2, HV.out.2⟩
  clear hb
  go_wp2_with fail
  refine (placeOk_any r (k : Int) _).mono ?_
  rintro e w2 ⟨rfl, hw2⟩
  have hw2' := hw2.symm
  subst hw2'
  clear hw2
  go_wp2
  go_ret
  refine ⟨⟨_, rfl, ?_⟩, unbox2 hA1 (by omega)⟩
  have := HT.out
  simp [inB, RIn, this]
  omega
set_option maxRecDepth 100000 in
set_option maxHeartbeats 4000000 in
theorem climbFn_any (l q : Nat) (x : Int) (b : Nat) (f : Nat → Int) (hl : l < 24) (hh : q < 24) (hf : ∀ j, 0 ≤ f j ∧ f j ≤ 1000000000000) (hx : 0 ≤ x ∧ x ≤ 1000000000000) (w : World) (hA : AHas w b f) :
    Calls Tryz.prog 128 #[.agg #[.int .i64 (l : Int), .int .i64 (q : Int)], .int .i64 x, .pointer (some ⟨b, 0, none⟩)] w fun e w' => (∃ v, e = .returned v) ∧ AHas w' b (fun j => if j = q then min (f q) (min 1000000000000 (f l + x)) else f j) ∧ Turns w w' [b] := by
  have a0 := hA.cell hl
  have a1 := hA.cell hh
  have z0 := hA.frozen l
  have z1 := hA.frozen q
  have hbl := hA.lt
  have l1 : (l : Int) < 24 := by omega
  have l2 : (q : Int) < 24 := by omega
  have c0 := hf l
  have PK : Hid (AHas w b f) := hA
  clear hA
  go_enter Tryz.func128, Tryz.ntmps128
  go_wp2_with fail
  refine wp_region_last_lit 14 (by kernel_rfl) (by rfl) (by rfl) (by rfl) (by kernel_rfl) (by kernel_rfl) (by kernel_rfl) (by rfl) ?_
  simp only [List.take_succ_cons, List.take_zero, List.cons_append, List.nil_append]
  repeat (go_big_quiet_step (first | exact Calls.quiet_of_same (plus_any _ _ c0.1 c0.2 hx.1 hx.2 _)))
  refine wpQuiet_nil ?_
  intro w7 hw7
  obtain ⟨nq, rfl⟩ := hw7
  have al := (Below.refl w.heap.size w).alloc (Nat.le_refl _) (.cells #[.int .i64 (l : Int), .int .i64 (q : Int)] 62)
  have hA6 := PK.out.below al hbl
  have hA7 := hA6.below (below_drewN (Below.refl _ _) nq) hA6.lt
  have hB7 := Turns.of_below (below_drewN al nq) (Nat.le_refl _) [b]
  clear PK al hA6 a0 a1 z0 z1
  generalize (w.alloc (.cells #[.int .i64 (l : Int), .int .i64 (q : Int)] 62)).drewN nq = W7 at hA7 hB7 ⊢
  have s0 := hA7.cell hh
  have s1 := hA7.frozen q
  have R : Hid (∀ v, v = min (f q) (min 1000000000000 (f l + x)) → AHas (W7.setCell ⟨b, q, none⟩ (.int .i64 v)) b (fun j => if j = q then min (f q) (min 1000000000000 (f l + x)) else f j)) := fun v hv => (hA7.set q v hh).congr (fun j _ => by rw [hv])
  have B : Hid (∀ v, Turns w (W7.setCell ⟨b, q, none⟩ (.int .i64 v)) [b]) := fun v => hB7.trans (Turns.of_grown (gr_setCell _ _ _ _))
  clear hA7 hB7
  go_simp
  go_wp2 <;>
  · go_end0
    exact ⟨⟨_, rfl⟩, R.out _ (by omega), B.out _⟩
set_option maxRecDepth 100000 in
set_option maxHeartbeats 4000000 in
theorem sumsFrom_any (eo : Option Addr) (k m ecap : Nat) (L H : Nat → Int) (uo : Option Addr) (ucap : Nat) (U : Nat → Int) (r : Nat) (hr : r < k) (hk : k ≤ 24) (hE : ∀ i, i < m → 0 ≤ L i ∧ L i < H i ∧ H i < (k : Int)) (hI : InF m U) (hm : m ≤ 1048576) (w : World) (he : ERow w eo m L H) (hU : IRow w uo m U) :
    Calls Tryz.prog 113 #[.int .i64 r, .slice eo m ecap, .slice uo m ucap] w fun e w' => e = .returned (.agg (arr (cl L H U r m))) ∧ Below w.heap.size w w' := by
  have HI : Hid (InF m U ∧ ∀ i, i < m → 0 ≤ L i ∧ L i < H i ∧ H i < (k : Int)) := ⟨hI, hE⟩
  clear hI hE
  go_enter Tryz.func113, Tryz.ntmps113
  go_wp2_with fail
  have A0 : AHas ((w.alloc (.cells (arr (fun _ => 0)) 144)).alloc (.cells (arr (fun _ => 0)) 144)) (w.heap.size + 1) (fun _ => 0) := heap_alloc2_new w _ _
  have R0 : AHas ((w.alloc (.cells (arr (fun _ => 0)) 144)).alloc (.cells (arr (fun _ => 0)) 144)) w.heap.size (fun _ => 0) := heap_alloc2_old w _ _
  have hB0 : Below w.heap.size w ((w.alloc (.cells (arr (fun _ => 0)) 144)).alloc (.cells (arr (fun _ => 0)) 144)) := ((Below.refl _ w).alloc (Nat.le_refl _) _).alloc (by simp) _
  have ez : (.cells (arr fun _ => 0) 144 : Obj) = .cells #[.int .i64 0, .int .i64 0, .int .i64 0, .int .i64 0, .int .i64 0, .int .i64 0, .int .i64 0, .int .i64 0, .int .i64 0, .int .i64 0, .int .i64 0, .int .i64 0, .int .i64 0, .int .i64 0, .int .i64 0, .int .i64 0, .int .i64 0, .int .i64 0, .int .i64 0, .int .i64 0, .int .i64 0, .int .i64 0, .int .i64 0, .int .i64 0] 144 := rfl
  rw [← ez]
  have hsz : ((w.alloc (.cells (arr (fun _ => 0)) 144)).alloc (.cells (arr (fun _ => 0)) 144)).heap.size = w.heap.size + 2 := by simp
  clear ez
  generalize ((w.alloc (.cells (arr (fun _ => 0)) 144)).alloc (.cells (arr (fun _ => 0)) 144)) = W0 at A0 R0 hB0 hsz ⊢
  go_loopw [12] (fun x wr => ∃ j : Nat, j ≤ 24 ∧ x = .int .i64 j ∧ AHas wr (w.heap.size + 1) (fun q => if q < j then 1000000000000 else 0) ∧ AHas wr w.heap.size (fun _ => 0) ∧ Below w.heap.size w wr) (fun x _ => 24 - (intOf x).toNat)
  case atStart => exact ⟨0, by omega, rfl, A0.congr (fun _ _ => by simp), R0, hB0⟩
  case round =>
    obtain ⟨j, hj, rfl, A1, R1, hB1⟩ := hrel
    clear A0 R0 hB0
    by_cases hlt : j < 24
    · have hlt' : (j : Int) < 24 := by omega
      have d0 := A1.cell hlt
      have z0 := A1.frozen j
      have A2 := (A1.set j 1000000000000 hlt).congr (g := fun q => if q < j + 1 then 1000000000000 else 0) (fun q _ => by
        by_cases e : q = j
        · subst e; simp
        · simp only [e, if_false]
          by_cases e2 : q < j
          · simp [e2]; omega
          · simp [e2]; omega)
      have R2 := R1.of_block (w' := wr.setCell ⟨w.heap.size + 1, j, none⟩ (.int .i64 1000000000000)) (Below.heap_setCell _ _ _ _ (by simp))
      have hB2 := hB1.setCell (p := ⟨w.heap.size + 1, j, none⟩) (by simp) (.int .i64 1000000000000)
      clear A1 R1 hB1
      go_wp2
      go_roundw
      case rel => exact ⟨j + 1, by omega, by go_num, A2, R2, hB2⟩
      case measure => simp [intOf]; omega
    have hj24 : j = 24 := by omega
    subst hj24
    rw [show ((24 : Nat) : Int) = 24 from rfl]
    have hr24 : r < 24 := by omega
    have d0 := A1.cell hr24
    have z0 := A1.frozen r
    have hs0 : (r : Int) < 24 := by omega
    have A2 := (A1.set r 0 hr24).congr (g := cl L H U r 0) (fun q hq => by
      unfold cl
      by_cases e : q = r
      · simp [e]
      · simp [e, hq])
    have R2 := R1.of_block (w' := wr.setCell ⟨w.heap.size + 1, r, none⟩ (.int .i64 0)) (Below.heap_setCell _ _ _ _ (by simp))
    have hB2 := hB1.setCell (p := ⟨w.heap.size + 1, r, none⟩) (by simp) (.int .i64 0)
    clear A1 R1 hB1
    go_wp2_with fail
    clear d0 z0
    go_loopw [23] (fun x wq => ∃ i : Nat, i ≤ m ∧ x = .int .i64 i ∧ AHas wq (w.heap.size + 1) (cl L H U r i) ∧ AHas wq w.heap.size (fun _ => 0) ∧ Below w.heap.size w wq) (fun x _ => m - (intOf x).toNat)
    case atStart => exact ⟨0, Nat.zero_le _, rfl, A2, R2, hB2⟩
    case round =>
      clear A2 R2 hB2
      obtain ⟨i, hi, rfl, A1, R1, hB1⟩ := hrel
      by_cases hlt3 : i < m
      rotate_left
      · have hin : i = m := by omega
        subst hin
        have A3 : Hid (AHas wr (w.heap.size + 1) (cl L H U r i)) := A1
        have R3 : Hid (AHas wr w.heap.size (fun _ => 0)) := R1
        clear A1 R1
        have hB3 : Hid (Below w.heap.size w (wr.setRow w.heap.size (arr (cl L H U r i)))) := setRow_below hB1 (Nat.le_refl _) _
        go_wp2_with (first | (refine wpList_load_row rfl 144 (.tmp 7) rfl (w.heap.size + 1) rfl 144 (arr (cl L H U r i)) (0, 0) _ A3.out Tryz.undArr rfl (Tryz.infoArr _) ?_) | (refine wpList_store_row rfl 144 (.tmp 6) (.tmp 36) rfl w.heap.size (arr (cl L H U r i)) rfl rfl 144 (arr (fun _ => 0)) R3.out (Tryz.infoArr _) (by rw [arr_size, arr_size]) (arr_one _) ?_))
        refine bodyPost_ret (results_cell_row rfl _ _ w.heap.size 144 (arr (cl L H U r i)) (0, 0) _ rfl (R3.out.row _) Tryz.undArr rfl (Tryz.infoArr _)) rfl ?_
        exact ⟨rfl, hB3.out⟩
      obtain ⟨ab, aoff, hao, e0, e1⟩ := (he.below hB1 (Nat.le_refl _)) i hlt3
      subst hao
      obtain ⟨ub, uoff, huo, u00⟩ := hU i hlt3
      subst huo
      have hub := lt_of_cell u00
      have u0 := keep_cell hB1 (Nat.le_refl _) u00
      clear u00
      have ha := HI.out.2 i hlt3
      obtain ⟨tF, hF⟩ : ∃ tF : Nat, L i = (tF : Int) := ⟨(L i).toNat, by omega⟩
      obtain ⟨tT, hTT⟩ : ∃ tT : Nat, H i = (tT : Int) := ⟨(H i).toNat, by omega⟩
      have hk1 : (0 : Int) ≤ (i : Int) := by omega
      have hk2 : (i : Int) < (m : Int) := by omega
      have hul := lt_of_cell u0
      have A3 : Hid (AHas wr (w.heap.size + 1) (cl L H U r i)) := A1
      have R3 : Hid (AHas wr w.heap.size (fun _ => 0)) := R1
      have hsl := A1.lt
      clear A1 R1
      have hwl := R3.out.lt
      go_wp2_with fail
      have hal := ((Below.refl wr.heap.size wr).alloc (Nat.le_refl _) (.cells #[.int .i64 (tF : Int), .int .i64 (tT : Int)] 62)).drew
      have A4 : Hid (AHas (wr.alloc (.cells #[.int .i64 (tF : Int), .int .i64 (tT : Int)] 62)).drew (w.heap.size + 1) (cl L H U r i)) := A3.out.below hal hsl
      have R4 : Hid (AHas (wr.alloc (.cells #[.int .i64 (tF : Int), .int .i64 (tT : Int)] 62)).drew w.heap.size (fun _ => 0)) := R3.out.below hal hwl
      have hB4 : Hid (Below w.heap.size w (wr.alloc (.cells #[.int .i64 (tF : Int), .int .i64 (tT : Int)] 62)).drew) := hB1.trans (hal.mono (by omega))
      have y0 : (wr.alloc (.cells #[.int .i64 (tF : Int), .int .i64 (tT : Int)] 62)).drew.cell? ⟨wr.heap.size, 0, none⟩ = some (.int .i64 (tF : Int)) := by simp [go_sem]
      have y1 : (wr.alloc (.cells #[.int .i64 (tF : Int), .int .i64 (tT : Int)] 62)).drew.cell? ⟨wr.heap.size, 1, none⟩ = some (.int .i64 (tT : Int)) := by simp [go_sem]
      have y2 := keep_cell hal (Nat.le_refl _) u0
      have c0 : ∀ j, 0 ≤ cl L H U r i j ∧ cl L H U r i j ≤ 1000000000000 := cl_in r HI.out.1 i (by omega)
      have c1 := HI.out.1 i hlt3
      have hne : ub ≠ w.heap.size + 1 := by omega
      have hne2 : wr.heap.size ≠ w.heap.size + 1 := by omega
      have hlF : tF < 24 := by omega
      have hlT : tT < 24 := by omega
      clear hal A3 R3 hB1 e0 e1 u0
      go_region_held3 (fun w' => w'.cell? ⟨wr.heap.size, 0, none⟩ = some (.int .i64 (tF : Int)) ∧ w'.cell? ⟨wr.heap.size, 1, none⟩ = some (.int .i64 (tT : Int)) ∧ w'.cell? ⟨ub, uoff + i, none⟩ = some (.int .i64 (U i)))
        (first | (go_split_ands; refine ⟨?_, ?_, ?_⟩ <;> exact hT.cell (by simp; omega) (by assumption)) | go_keep)
        (first | (go_at_call 128; refine (climbFn_any tF tT (U i) (w.heap.size + 1) _ hlF hlT c0 c1 _ A4.out).mono ?_; rintro e w2 ⟨⟨v, rfl⟩, hA, hT⟩))
      have A5 := hA.congr (g := cl L H U r (i + 1)) (fun j hj => by
        have h1 : (H i).toNat = tT := by omega
        have h2 : (L i).toNat = tF := by omega
        show _ = (if j = (H i).toNat then _ else _)
        rw [h1, h2])
      have R5 := R4.out.of_block (hT.block _ R4.out.lt (by simp))
      have B5 := hB4.out.trans (hT.below (B := w.heap.size) (by have := R4.out.lt; omega) (by simp))
      clear hA A4 R4 hB4 hT
      go_wp2
      go_roundw
      case rel => exact ⟨i + 1, by omega, by go_num, A5, R5, B5⟩
      case measure => simp [intOf]; omega

end Go.Proofs.YtokaechbmnbbiabGreat
