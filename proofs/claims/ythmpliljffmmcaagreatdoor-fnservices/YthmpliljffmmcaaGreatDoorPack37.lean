/-
  Helpers: ShC, ShE, ShD, ApP.
-/
import Derived.Test.YthmpliljffmmcaaGreatDoorPack1
import Derived.Test.YthmpliljffmmcaaGreatDoorPack36
import Derived.Test.YthmpliljffmmcaaGreatDoorPack15
import Derived.Test.YthmpliljffmmcaaGreatDoorPack20
import Derived.Test.YthmpliljffmmcaaGreatDoorPack19
import Derived.Test.YthmpliljffmmcaaGreatDoorPack24
set_option linter.unusedVariables false
set_option linter.unusedSimpArgs false
namespace Go.Proofs.YthmpliljffmmcaaGreatDoor
section
section
variable {k n m : Nat} {F T G P L H : Nat → Int} {Ds : Nat → Nat → Int}
theorem ds_tri (hF : ∀ t, t < n → (F t).toNat < k) (hG : ∀ t, t < n → 1 ≤ G t ∧ G t ≤ 1000000) (hS : ∀ s, s < k → Sol k n F T G s (Ds s)) {s u : Nat} (hs : s < k) (hu : u < k) : ∀ N v, v < k → (Ds u v).toNat ≤ N → Ds s v ≤ Ds s u + Ds u v := by
  intro N
  induction N with
  | zero =>
    intro v hv hN
    by_cases e : v = u
    · subst e; have := (hS v hu).zero; omega
    · have h0 := (hS u hu).lo v hv
      obtain ⟨t, ht, e1, e2⟩ := (hS u hu).via v hv e (by omega)
      have h1 := (hS u hu).lo (F t).toNat (hF t ht)
      have h2 := hG t ht
      omega
  | succ N ih =>
    intro v hv hN
    have h3 := (hS s hs).lo u hu
    by_cases e : v = u
    · subst e; have := (hS v hu).zero; omega
    by_cases hf : Ds u v < 1000000000000
    rotate_left
    · have := (hS s hs).hi v hv; omega
    obtain ⟨t, ht, e1, e2⟩ := (hS u hu).via v hv e hf
    have h1 := (hS u hu).lo (F t).toNat (hF t ht)
    have h2 := hG t ht
    have h4 := ih (F t).toNat (hF t ht) (by omega)
    have h5 := (hS s hs).fix t ht
    rw [e1] at h5
    omega
theorem lastW_or {a b : Int} : ∀ n, lastW F T G a b n = 1000000000000 ∨ ∃ t, t < n ∧ F t = a ∧ T t = b ∧ lastW F T G a b n = G t
  | 0 => .inl rfl
  | n + 1 => by
    unfold lastW
    split
    · rename_i h; exact .inr ⟨n, by omega, h.1, h.2, rfl⟩
    · rcases lastW_or n with h | ⟨t, ht, h⟩
      · exact .inl h
      · exact .inr ⟨t, by omega, h⟩
def Snd (m : Nat) (P L H : Nat → Int) (Ds : Nat → Nat → Int) (s : (Nat → Int) × (Nat → Int)) : Prop := ∀ e, e < m → Ds (P (L e).toNat).toNat (P (H e).toNat).toNat ≤ s.1 e ∧ Ds (P (H e).toNat).toNat (P (L e).toNat).toNat ≤ s.2 e
theorem snd_init (hP : ∀ r, r < k → 0 ≤ P r ∧ P r < (k : Int)) (hE : ∀ i, i < m → 0 ≤ L i ∧ L i < H i ∧ H i < (k : Int)) (hS : ∀ s, s < k → Sol k n F T G s (Ds s)) : Snd m P L H Ds (w0U n F T G P L H, w0D n F T G P L H) := fun e he => by
  have h1 := hE e he
  have p1 := hP (L e).toNat (by omega)
  have p2 := hP (H e).toNat (by omega)
  have one : ∀ x y : Nat, x < k → y < k → Ds (P x).toNat (P y).toNat ≤ lastW F T G (P x) (P y) n := fun x y hx hy => by
    have q1 := hP x hx
    have q2 := hP y hy
    rcases lastW_or (F := F) (T := T) (G := G) (a := P x) (b := P y) n with h | ⟨t, ht, e1, e2, e3⟩
    · rw [h]; exact (hS (P x).toNat (by omega)).hi _ (by omega)
    · have a1 := (hS (P x).toNat (by omega)).fix t ht
      have a2 := (hS (P x).toNat (by omega)).zero
      rw [e1, e2] at a1
      rw [e3]
      omega
  exact ⟨one _ _ (by omega) (by omega), one _ _ (by omega) (by omega)⟩
theorem snd_step (hP : ∀ r, r < k → 0 ≤ P r ∧ P r < (k : Int)) (hF : ∀ t, t < n → (F t).toNat < k) (hG : ∀ t, t < n → 1 ≤ G t ∧ G t ≤ 1000000) (hE : ∀ i, i < m → 0 ≤ L i ∧ L i < H i ∧ H i < (k : Int)) (hS : ∀ s, s < k → Sol k n F T G s (Ds s)) {s : (Nat → Int) × (Nat → Int)} {t : Tr} (ht : TOk m L H t) (h : Snd m P L H Ds s) : Snd m P L H Ds (stT s t) := by
  obtain ⟨a1, a2, a3, a4, a5, a6, a7⟩ := ht
  have b1 := hE t.1 a1
  have b2 := hE t.2.1 a2
  have pw := hP (L t.1).toNat (by omega)
  have px := hP (H t.1).toNat (by omega)
  have py := hP (H t.2.1).toNat (by omega)
  have c1 := h t.1 a1
  have c2 := h t.2.1 a2
  have c3 := h t.2.2 a3
  rw [a5] at c2
  have t1 := ds_tri hF hG hS (s := (P (H t.1).toNat).toNat) (u := (P (L t.1).toNat).toNat) (by omega) (by omega) _ (P (H t.2.1).toNat).toNat (by omega) nl
  have t2 := ds_tri hF hG hS (s := (P (H t.2.1).toNat).toNat) (u := (P (L t.1).toNat).toNat) (by omega) (by omega) _ (P (H t.1).toNat).toNat (by omega) nl
  have f1 := (hS (P (H t.1).toNat).toNat (by omega)).hi (P (H t.2.1).toNat).toNat (by omega)
  have f2 := (hS (P (H t.2.1).toNat).toNat (by omega)).hi (P (H t.1).toNat).toNat (by omega)
  rw [a6, a7] at c3
  have hu : ∀ e, e < m → Ds (P (L e).toNat).toNat (P (H e).toNat).toNat ≤ stU s t e := fun e he => by
    unfold stU
    split
    · rename_i q
      subst q
      unfold upT
      rw [a6, a7]
      omega
    · exact (h e he).1
  refine fun e he => ⟨hu e he, ?_⟩
  show Ds _ _ ≤ (if e = t.2.2 then min (s.2 t.2.2) (dnT (stU s t) s.2 t) else s.2 e)
  split
  · rename_i q
    subst q
    have d1 := hu t.1 a1
    unfold dnT
    rw [a6, a7]
    omega
  · exact (h e he).2
theorem snd_run (hP : ∀ r, r < k → 0 ≤ P r ∧ P r < (k : Int)) (hF : ∀ t, t < n → (F t).toNat < k) (hG : ∀ t, t < n → 1 ≤ G t ∧ G t ≤ 1000000) (hE : ∀ i, i < m → 0 ≤ L i ∧ L i < H i ∧ H i < (k : Int)) (hS : ∀ s, s < k → Sol k n F T G s (Ds s)) {s : (Nat → Int) × (Nat → Int)} : ∀ l : List Tr, (∀ t ∈ l, TOk m L H t) → Snd m P L H Ds s → Snd m P L H Ds (runT s l) := by
  intro l
  induction l generalizing s with
  | nil => intro _ h; exact h
  | cons t l ih =>
    intro h1 h
    exact ih (s := stT s t) (fun x hx => h1 x (by simp [hx])) (snd_step hP hF hG hE hS (h1 t (by simp)) h)
theorem snd_up (hP : ∀ r, r < k → 0 ≤ P r ∧ P r < (k : Int)) (hF : ∀ t, t < n → (F t).toNat < k) (hG : ∀ t, t < n → 1 ≤ G t ∧ G t ≤ 1000000) (hE : ∀ i, i < m → 0 ≤ L i ∧ L i < H i ∧ H i < (k : Int)) (hS : ∀ s, s < k → Sol k n F T G s (Ds s)) {U V : Nat → Int} (h : Snd m P L H Ds (U, V)) {a : Nat} (ha : a < k) : ∀ i, i ≤ m → ∀ r, r < k → Ds (P a).toNat (P r).toNat ≤ cl L H U a i r
  | 0, _, r, hr => by
    have pa := hP a ha
    have pr := hP r hr
    rw [cl.eq_1]
    simp only
    split
    · rename_i e; subst e; have := (hS (P r).toNat (by omega)).zero; omega
    · exact (hS (P a).toNat (by omega)).hi _ (by omega)
  | i + 1, hi, r, hr => by
    have ih := snd_up hP hF hG hE hS h ha i (by omega)
    have pa := hP a ha
    rw [cl.eq_2]
    simp only
    split
    · rename_i e
      have b := hE i (by omega)
      have pl := hP (L i).toNat (by omega)
      have ph := hP (H i).toNat (by omega)
      have c1 := ih (H i).toNat (by omega)
      have c2 := ih (L i).toNat (by omega)
      have c3 := (h i (by omega)).1
      have c4 := ds_tri hF hG hS (s := (P a).toNat) (u := (P (L i).toNat).toNat) (by omega) (by omega) _ (P (H i).toNat).toNat (by omega) nl
      have c5 := (hS (P a).toNat (by omega)).hi (P (H i).toNat).toNat (by omega)
      simp only at c3
      subst e
      omega
    · exact ih r hr
theorem snd_dn (hP : ∀ r, r < k → 0 ≤ P r ∧ P r < (k : Int)) (hF : ∀ t, t < n → (F t).toNat < k) (hG : ∀ t, t < n → 1 ≤ G t ∧ G t ≤ 1000000) (hE : ∀ i, i < m → 0 ≤ L i ∧ L i < H i ∧ H i < (k : Int)) (hS : ∀ s, s < k → Sol k n F T G s (Ds s)) {U V : Nat → Int} (h : Snd m P L H Ds (U, V)) {b : Nat} (hb : b < k) : ∀ i, i ≤ m → ∀ r, r < k → Ds (P r).toNat (P b).toNat ≤ cl L H V b i r
  | 0, _, r, hr => by
    have pa := hP b hb
    have pr := hP r hr
    rw [cl.eq_1]
    simp only
    split
    · rename_i e; subst e; have := (hS (P r).toNat (by omega)).zero; omega
    · exact (hS (P r).toNat (by omega)).hi _ (by omega)
  | i + 1, hi, r, hr => by
    have ih := snd_dn hP hF hG hE hS h hb i (by omega)
    have pa := hP b hb
    rw [cl.eq_2]
    simp only
    split
    · rename_i e
      have b1 := hE i (by omega)
      have pl := hP (L i).toNat (by omega)
      have ph := hP (H i).toNat (by omega)
      have c1 := ih (H i).toNat (by omega)
      have c2 := ih (L i).toNat (by omega)
      have c3 := (h i (by omega)).2
      have c4 := ds_tri hF hG hS (s := (P (H i).toNat).toNat) (u := (P (L i).toNat).toNat) (by omega) (by omega) _ (P b).toNat (by omega) nl
      have c5 := (hS (P (H i).toNat).toNat (by omega)).hi (P b).toNat (by omega)
      simp only at c3
      subst e
      omega
    · exact ih r hr
theorem meet_is (E : CEnv k n m F T G P L H) (hun : ∀ i j, i < n → j < n → F i = F j → T i = T j → i = j) (hS : ∀ s, s < k → Sol k n F T G s (Ds s)) {U V : Nat → Int} (hUV : runT (w0U n F T G P L H, w0D n F T G P L H) (allT m L H m) = (U, V)) (h0U : InF m (w0U n F T G P L H)) (h0V : InF m (w0D n F T G P L H)) {a b : Nat} (ha : a < k) (hb : b < k) :
    (mt (cl L H U a m) (cl L H V b m) k).2 = Ds (P a).toNat (P b).toNat := by
  have hE := E.ei
  have hP : ∀ r, r < k → 0 ≤ P r ∧ P r < (k : Int) := fun r hr => (each_in k E.each r hr).1
  have hF : ∀ t, t < n → (F t).toNat < k := fun t ht => by
    obtain ⟨x, y, e, _, _, _, h1, _⟩ := E.arc t ht
    omega
  have hok : ∀ t ∈ allT m L H m, TOk m L H t := allT_ok E.ed E.chd.2 m
  have hIn := runT_in (s := (w0U n F T G P L H, w0D n F T G P L H)) h0U h0V _ hok
  have hle : ∀ e, U e ≤ w0U n F T G P L H e ∧ V e ≤ w0D n F T G P L H e := fun e => by
    have := runT_le (s := (w0U n F T G P L H, w0D n F T G P L H)) (j := e) (allT m L H m)
    rw [hUV] at this
    exact this
  have hT : ∀ t, TOk m L H t → okT U V t := fun t ht => by
    have := runT_ok (s := (w0U n F T G P L H, w0D n F T G P L H)) hE _ hok (allT_sorted E.ed m nl) t (tok_mem E.ed ht)
    rw [hUV] at this
    exact this
  have hSn := snd_run hP hF E.gt hE hS _ hok (snd_init hP hE hS)
  rw [hUV] at hIn hSn
  have hU : InF m U := hIn.1
  have hV : InF m V := hIn.2
  have pa := hP a ha
  have pb := hP b hb
  apply Int.le_antisymm
  · -- no longer
    have up : ∀ N v, v < k → (Ds (P a).toNat (P v).toNat).toNat ≤ N → (mt (cl L H U a m) (cl L H V v m) k).2 ≤ Ds (P a).toNat (P v).toNat := by
      intro N
      induction N with
      | zero =>
        intro v hv hN
        have pv := hP v hv
        have l0 := (hS (P a).toNat (by omega)).lo (P v).toNat (by omega)
        by_cases e : (P v).toNat = (P a).toNat
        · have ev : v = a := E.inj v a hv ha (by omega)
          subst ev
          have z1 := cl_zero (s := v) hE hU m nl
          have z2 := cl_zero (s := v) hE hV m nl
          have := (mt_leS (A := cl L H U v m) (B := cl L H V v m) k).2 v hv
          omega
        · obtain ⟨t, ht, e1, e2⟩ := (hS (P a).toNat (by omega)).via (P v).toNat (by omega) e (by omega)
          have h1 := (hS (P a).toNat (by omega)).lo (F t).toNat (hF t ht)
          have h2 := E.gt t ht
          omega
      | succ N ih =>
        intro v hv hN
        have pv := hP v hv
        have l0 := (hS (P a).toNat (by omega)).lo (P v).toNat (by omega)
        have top := (mt_leS (A := cl L H U a m) (B := cl L H V v m) k).1
        by_cases e : (P v).toNat = (P a).toNat
        · have ev : v = a := E.inj v a hv ha (by omega)
          subst ev
          have z1 := cl_zero (s := v) hE hU m nl
          have z2 := cl_zero (s := v) hE hV m nl
          have := (mt_leS (A := cl L H U v m) (B := cl L H V v m) k).2 v hv
          omega
        by_cases hf : Ds (P a).toNat (P v).toNat < 1000000000000
        rotate_left
        · omega
        obtain ⟨t, ht, e1, e2⟩ := (hS (P a).toNat (by omega)).via (P v).toNat (by omega) e hf
        have h1 := (hS (P a).toNat (by omega)).lo (F t).toNat (hF t ht)
        have h2 := E.gt t ht
        obtain ⟨x, y, ed, hx, hy, hed, ⟨px, q1, q2⟩, ⟨py, q3, q4⟩, _, hor⟩ := E.arc t ht
        have yv : y = v := E.inj y v hy hv (by omega)
        subst yv
        have px2 : (P x).toNat = (F t).toNat := by rw [px]
        have ihx := ih x hx (by rw [px2]; omega)
        rw [px2] at ihx
        by_cases hfx : (mt (cl L H U a m) (cl L H V x m) k).2 < 1000000000000
        rotate_left
        · omega
        obtain ⟨r, hr, er⟩ := mt_atS k hfx
        have wt := lastW_at (F := F) (T := T) (G := G) (a := P x) (b := P y) (k := t) n (fun j hj h3 h4 => hun j t hj ht (by rw [h3, px]) (by rw [h4, py])) ht px.symm py.symm
        rcases hor with ⟨hxy, hL, hH⟩ | ⟨hxy, hL, hH⟩
        · have w := way_up (a := a) E.chd E.ed hE hU hV hT _ ed r hed hr nl
          have w1 := (hle ed).1
          unfold w0U at w1
          rw [hL, hH, Int.toNat_natCast, Int.toNat_natCast, wt] at w1
          rw [hL, hH, Int.toNat_natCast, Int.toNat_natCast] at w
          omega
        · have w := way_down (a := a) (r := r) E.ed hE hV hed
          have w1 := (hle ed).2
          unfold w0D at w1
          rw [hL, hH, Int.toNat_natCast, Int.toNat_natCast, wt] at w1
          rw [hL, hH, Int.toNat_natCast, Int.toNat_natCast] at w
          have w2 := (mt_leS (A := cl L H U a m) (B := cl L H V y m) k).2 r hr
          omega
    exact up _ b hb nl
  · by_cases hf : (mt (cl L H U a m) (cl L H V b m) k).2 < 1000000000000
    · obtain ⟨r, hr, er⟩ := mt_atS k hf
      have pr := hP r hr
      have s1 := snd_up hP hF E.gt hE hS hSn ha m nl r hr
      have s2 := snd_dn hP hF E.gt hE hS hSn hb m nl r hr
      have s3 := ds_tri hF E.gt hS (s := (P a).toNat) (u := (P r).toNat) (by omega) (by omega) _ (P b).toNat (by omega) nl
      omega
    · have := (hS (P a).toNat (by omega)).hi (P b).toNat (by omega)
      omega
end
structure Rch (n : Nat) (F T G : Nat → Int) (s : Nat) (d : Nat → Int) : Prop where
  zero : d s = 0
  lo : ∀ v, 0 ≤ d v
  hi : ∀ v, d v ≤ 1000000000000
  via : ∀ v, v ≠ s → d v < 1000000000000 → ∃ k, k < n ∧ (T k).toNat = v ∧ d (F k).toNat + G k ≤ d v
theorem rch_relax {p n : Nat} {F T G : Nat → Int} {s : Nat} {d : Nat → Int} (hA : Arcs p n F T G) (h : Rch n F T G s d) {k : Nat} (hk : k < n) : Rch n F T G s (relax F T G d k) := by
  have a := hA k hk
  have hle := relax_le F T G d k
  have ev : ∀ v, relax F T G d k v = if v = (T k).toNat then min (d (T k).toNat) (min 1000000000000 (d (F k).toNat + G k)) else d v := fun v => rfl
  have l1 := h.lo (F k).toNat
  refine ⟨?_, fun v => ?_, fun v => Int.le_trans (hle v) (h.hi v), fun v hv hf => ?_⟩
  · rw [ev]
    split
    · rename_i e
      rw [← e, h.zero]
      omega
    · exact h.zero
  · rw [ev]
    split
    · have := h.lo (T k).toNat; omega
    · exact h.lo v
  · by_cases e : v = (T k).toNat
    · by_cases q : relax F T G d k v = d v
      · rw [q] at hf ⊢
        obtain ⟨t, ht, e1, e2⟩ := h.via v hv hf
        have := hle (F t).toNat
        exact ⟨t, ht, e1, by omega⟩
      · refine ⟨k, hk, e.symm, ?_⟩
        have l2 := hle (F k).toNat
        rw [ev v, if_pos e] at q hf ⊢
        rw [e] at q
        omega
    · have q : relax F T G d k v = d v := by rw [ev, if_neg e]
      rw [q] at hf ⊢
      obtain ⟨t, ht, e1, e2⟩ := h.via v hv hf
      have := hle (F t).toNat
      exact ⟨t, ht, e1, by omega⟩
theorem rch_turnTo {p n : Nat} {F T G : Nat → Int} {s : Nat} {d : Nat → Int} (hA : Arcs p n F T G) (h : Rch n F T G s d) : ∀ k, k ≤ n → Rch n F T G s (turnTo F T G d k)
  | 0, _ => h
  | k + 1, hk => rch_relax hA (rch_turnTo hA h k (by omega)) (by omega)
theorem sumTo_nn {f : Nat → Int} (h : ∀ v, 0 ≤ f v) : ∀ n, 0 ≤ sumTo f n
  | 0 => Int.le_refl _
  | n + 1 => by simp only [sumTo]; have := sumTo_nn h n; have := h n; omega
theorem sumTo_lt {f g : Nat → Int} {v : Nat} (hl : ∀ j, f j ≤ g j) (hv : f v < g v) : ∀ n, v < n → sumTo f n < sumTo g n
  | 0, h => by omega
  | n + 1, h => by
    simp only [sumTo]
    by_cases e : v = n
    · subst e
      have := sumTo_le (f := f) (g := g) v (fun j _ => hl j)
      omega
    · have := sumTo_lt hl hv n (by omega)
      have := hl n
      omega
theorem sol_ex {p n : Nat} {F T G : Nat → Int} {s : Nat} (hA : Arcs p n F T G) : ∃ D, Sol p n F T G s D := by
  have main : ∀ B : Nat, ∀ d, Rch n F T G s d → (sumTo d p).toNat ≤ B → ∃ D, Sol p n F T G s D := by
    intro B
    induction B with
    | zero =>
      intro d h hB
      by_cases st : ∀ v, v < p → turnTo F T G d n v = d v
      · exact ⟨d, h.zero, fun v _ => h.lo v, fun v _ => h.hi v, fun k hk => by
          have := turnTo_at F T G d hk
          have a := hA k hk
          rw [st (T k).toNat (by omega)] at this
          exact this, fun v _ hv hf => h.via v hv hf⟩
      · obtain ⟨v, hv⟩ := Classical.not_forall.1 st
        obtain ⟨hv, hne⟩ := Classical.not_imp.1 hv
        have l := turnTo_le F T G d v n
        have h2 := rch_turnTo hA h n nl
        have := sumTo_lt (f := turnTo F T G d n) (g := d) (v := v) (fun j => turnTo_le F T G d j n) (by omega) p hv
        have := sumTo_nn h2.lo p
        omega
    | succ B ih =>
      intro d h hB
      by_cases st : ∀ v, v < p → turnTo F T G d n v = d v
      · exact ⟨d, h.zero, fun v _ => h.lo v, fun v _ => h.hi v, fun k hk => by
          have := turnTo_at F T G d hk
          have a := hA k hk
          rw [st (T k).toNat (by omega)] at this
          exact this, fun v _ hv hf => h.via v hv hf⟩
      · obtain ⟨v, hv⟩ := Classical.not_forall.1 st
        obtain ⟨hv, hne⟩ := Classical.not_imp.1 hv
        have l := turnTo_le F T G d v n
        have h2 := rch_turnTo hA h n nl
        have q := sumTo_lt (f := turnTo F T G d n) (g := d) (v := v) (fun j => turnTo_le F T G d j n) (by omega) p hv
        have := sumTo_nn h2.lo p
        exact ih _ h2 (by omega)
  refine main _ (start s) ⟨by simp [start], fun v => ?_, fun v => ?_, fun v hv hf => ?_⟩ nl
  · unfold start; split <;> omega
  · unfold start; split <;> omega
  · unfold start at hf
    rw [if_neg hv] at hf
    omega
theorem rk_ex {P : Nat → Int} : ∀ k q, sn P k q = true → ∃ x, x < k ∧ P x = (q : Int) ∧ rk P (-1) k q = (x : Int)
  | 0, q, h => by simp [sn] at h
  | k + 1, q, h => by
    by_cases e : P k = (q : Int)
    · exact ⟨k, by omega, e, by unfold rk; rw [if_pos e]⟩
    · rw [sn_succ] at h
      have : sn P k q = true := by simpa [e] using h
      obtain ⟨x, hx, e1, e2⟩ := rk_ex k q this
      exact ⟨x, by omega, e1, by unfold rk; rw [if_neg e]; exact e2⟩
theorem dst_is {p : Int} {n k : Nat} {F T G P : Nat → Int} (h : ordB p n F T G k P = true) {Ds : Nat → Nat → Int} (hS : ∀ s, s < k → Sol k n F T G s (Ds s)) {CU CD : Nat → Int} (hC : cusT p n F T G P = (CU, CD)) {i j : Nat} (hi : i < k) (hj : j < k) :
    dst k P (lstF p n F T P).length (Lf (lstF p n F T P)) (Hf (lstF p n F T P)) (lstF p n F T P).length CU (lstF p n F T P).length CD (i : Int) (j : Int) = Ds i j := by
  have E := cenv_of h
  obtain ⟨hkp, hg, ⟨k1, k24⟩, he⟩ := ordB_parts h
  have hun : ∀ i j, i < n → j < n → F i = F j → T i = T j → i = j := fun i j h1 h2 h3 h4 => unique (graphB_arcs hg).2 h1 h2 h3 h4
  have hw : ∀ a b, 0 ≤ lastW F T G a b n ∧ lastW F T G a b n ≤ 1000000000000 := fun a b => by
    rcases lastW_or (F := F) (T := T) (G := G) (a := a) (b := b) n with e | ⟨t, ht, _, _, e⟩
    · omega
    · have := E.gt t ht; omega
  unfold cusT at hC
  generalize (lstF p n F T P).length = m at E hC ⊢
  generalize Lf (lstF p n F T P) = L at E hC ⊢
  generalize Hf (lstF p n F T P) = H at E hC ⊢
  have h0U : InF m (w0U n F T G P L H) := fun _ _ => hw _ _
  have h0V : InF m (w0D n F T G P L H) := fun _ _ => hw _ _
  have hIn := runT_in (s := (w0U n F T G P L H, w0D n F T G P L H)) h0U h0V _ (allT_ok E.ed E.chd.2 m)
  rw [hC] at hIn
  have hT : TOld k m L H m CU m CD := ⟨E.chd.1, rfl, rfl, hIn.1, hIn.2⟩
  have hok : okR k P = true := by simp [okR, he]; omega
  obtain ⟨x, hx, ex, rx⟩ := rk_ex k i (each_all he i hi)
  obtain ⟨y, hy, ey, ry⟩ := rk_ex k j (each_all he j hj)
  rw [dst_yes hok ⟨by omega, by omega⟩ ⟨by omega, by omega⟩, Int.toNat_natCast, Int.toNat_natCast, rx, ry, mtg_yes hT ⟨by omega, by omega⟩ ⟨by omega, by omega⟩, Int.toNat_natCast, Int.toNat_natCast, meet_is E hun hS hC h0U h0V hx hy, ex, ey, Int.toNat_natCast, Int.toNat_natCast]
theorem ask_same {p : Int} {n k : Nat} {F T G P : Nat → Int} (h : ordB p n F T G k P = true) {CU CD : Nat → Int} (hC : cusT p n F T G P = (CU, CD)) (a b : Int) :
    (0 ≤ dst k P (lstF p n F T P).length (Lf (lstF p n F T P)) (Hf (lstF p n F T P)) (lstF p n F T P).length CU (lstF p n F T P).length CD a b ∧ dst k P (lstF p n F T P).length (Lf (lstF p n F T P)) (Hf (lstF p n F T P)) (lstF p n F T P).length CU (lstF p n F T P).length CD a b ≤ 1000000000000) ∧
    dTx (dst k P (lstF p n F T P).length (Lf (lstF p n F T P)) (Hf (lstF p n F T P)) (lstF p n F T P).length CU (lstF p n F T P).length CD a b) = dT (lenD p n F T G a) (listD p n F T G a) b := by
  obtain ⟨hkp, hg, ⟨k1, k24⟩, he⟩ := ordB_parts h
  subst hkp
  have hA : Arcs k n F T G := arcs_of (graphB_arcs hg).2
  have hDs : ∃ Ds : Nat → Nat → Int, ∀ s, s < k → Sol k n F T G s (Ds s) := ⟨fun s => Classical.choose (sol_ex (s := s) hA), fun s _ => Classical.choose_spec (sol_ex (s := s) hA)⟩
  obtain ⟨Ds, hDs⟩ := hDs
  by_cases ha : 0 ≤ a ∧ a < (k : Int)
  · have hL : lenD (k : Int) n F T G a = k := by
      unfold lenD okD
      rw [hg]
      have : inB a 0 ((k : Int) - 1) = true := by simp [inB]; omega
      rw [this]
      simp
    rw [hL]
    by_cases hb : 0 ≤ b ∧ b < (k : Int)
    · obtain ⟨i, rfl⟩ := Int.eq_ofNat_of_zero_le ha.1
      obtain ⟨j, rfl⟩ := Int.eq_ofNat_of_zero_le hb.1
      have hi : i < k := by omega
      have hj : j < k := by omega
      have hd := dst_is h hDs hC hi hj
      have hs := hDs i hi
      have hl : listD (k : Int) n F T G (i : Int) j = Ds i j := by
        unfold listD
        rw [Int.toNat_natCast, Int.toNat_natCast]
        exact turns_sol hA hs j hj
      have hbd : 0 ≤ Ds i j ∧ Ds i j ≤ 1000000000000 := ⟨hs.lo j hj, hs.hi j hj⟩
      have hin : inB (j : Int) 0 ((k : Int) - 1) = true := by simp [inB]; omega
      show (0 ≤ dst k P _ _ _ _ CU _ CD (i : Int) (j : Int) ∧ dst k P _ _ _ _ CU _ CD (i : Int) (j : Int) ≤ _) ∧ dTx (dst k P _ _ _ _ CU _ CD (i : Int) (j : Int)) = dT k (listD (k : Int) n F T G (i : Int)) (j : Int)
      rw [hd]
      refine ⟨hbd, ?_⟩
      unfold dTx
      by_cases hf : Ds i j = 1000000000000
      · rw [if_pos hf, dT_far (by rw [hl]; exact hf)]
      · rw [if_neg hf, dT_in hin (by rw [hl]; exact hf), hl]
    · have hin : inB b 0 ((k : Int) - 1) = false := by simp [inB]; omega
      rw [dst_no (fun q => hb q.2.2.2), dT_out hin]
      exact ⟨by omega, by simp [dTx]⟩
  · have hL : lenD (k : Int) n F T G a = 0 := by
      unfold lenD okD
      have : inB a 0 ((k : Int) - 1) = false := by simp [inB]; omega
      rw [this]
      simp
    have hin : inB b 0 (((0 : Nat) : Int) - 1) = false := by simp [inB]; omega
    rw [hL, dst_no (fun q => ha q.2.2.1), dT_out hin]
    exact ⟨by omega, by simp [dTx]⟩
end
end Go.Proofs.YthmpliljffmmcaaGreatDoor
