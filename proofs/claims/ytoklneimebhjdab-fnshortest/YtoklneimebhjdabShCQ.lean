/-
  The shortest way, plainly: the distance by a customized metric is that of the map.
-/
import Derived.Test.YtoklneimebhjdabShAQ
import Derived.Test.YtoklneimebhjdabShBQ
import Derived.Test.YtoklneimebhjdabDistQ
set_option linter.unusedVariables false
set_option linter.unusedSimpArgs false
namespace Go.Proofs.Ytoklneimebhjdab

section
variable {k n m : Nat} {F T G P L H : Nat → Int} {Ds : Nat → Nat → Int}
/-- Over a place between is none shorter. -/
theorem ds_tri (hF : ∀ t, t < n → (F t).toNat < k) (hG : ∀ t, t < n → 1 ≤ G t ∧ G t ≤ 1000000) (hS : ∀ s, s < k → Sol k n F T G s (Ds s)) {s u : Nat} (hs : s < k) (hu : u < k) : ∀ N v, v < k → (Ds u v).toNat ≤ N → Ds s v ≤ Ds s u + Ds u v := by
  intro N
  induction N with
  | zero =>
    intro v hv hN
    by_cases e : v = u
    · subst e; have := (hS v hu).zero; omega
    · have h0 := (hS u hu).lo v hv
      obtain ⟨t, ht, e1, e2⟩ := (hS u hu).via v hv e (by omega)
      have h1 := (hS u hu).lo (F t).toNat (hF t ht)
      have h2 := hG t ht
      omega
  | succ N ih =>
    intro v hv hN
    have h3 := (hS s hs).lo u hu
    by_cases e : v = u
    · subst e; have := (hS v hu).zero; omega
    by_cases hf : Ds u v < 1000000000000
    rotate_left
    · have := (hS s hs).hi v hv; omega
    obtain ⟨t, ht, e1, e2⟩ := (hS u hu).via v hv e hf
    have h1 := (hS u hu).lo (F t).toNat (hF t ht)
    have h2 := hG t ht
    have h4 := ih (F t).toNat (hF t ht) (by omega)
    have h5 := (hS s hs).fix t ht
    rw [e1] at h5
    omega
theorem lastW_or {a b : Int} : ∀ n, lastW F T G a b n = 1000000000000 ∨ ∃ t, t < n ∧ F t = a ∧ T t = b ∧ lastW F T G a b n = G t
  | 0 => .inl rfl
  | n + 1 => by
    unfold lastW
    split
    · rename_i h; exact .inr ⟨n, by omega, h.1, h.2, rfl⟩
    · rcases lastW_or n with h | ⟨t, ht, h⟩
      · exact .inl h
      · exact .inr ⟨t, by omega, h⟩
/-- No edge's weight is less than the way between its places. -/
def Snd (m : Nat) (P L H : Nat → Int) (Ds : Nat → Nat → Int) (s : (Nat → Int) × (Nat → Int)) : Prop := ∀ e, e < m → Ds (P (L e).toNat).toNat (P (H e).toNat).toNat ≤ s.1 e ∧ Ds (P (H e).toNat).toNat (P (L e).toNat).toNat ≤ s.2 e
theorem snd_init (hP : ∀ r, r < k → 0 ≤ P r ∧ P r < (k : Int)) (hE : ∀ i, i < m → 0 ≤ L i ∧ L i < H i ∧ H i < (k : Int)) (hS : ∀ s, s < k → Sol k n F T G s (Ds s)) : Snd m P L H Ds (w0U n F T G P L H, w0D n F T G P L H) := fun e he => by
  have h1 := hE e he
  have p1 := hP (L e).toNat (by omega)
  have p2 := hP (H e).toNat (by omega)
  have one : ∀ x y : Nat, x < k → y < k → Ds (P x).toNat (P y).toNat ≤ lastW F T G (P x) (P y) n := fun x y hx hy => by
    have q1 := hP x hx
    have q2 := hP y hy
    rcases lastW_or (F := F) (T := T) (G := G) (a := P x) (b := P y) n with h | ⟨t, ht, e1, e2, e3⟩
    · rw [h]; exact (hS (P x).toNat (by omega)).hi _ (by omega)
    · have a1 := (hS (P x).toNat (by omega)).fix t ht
      have a2 := (hS (P x).toNat (by omega)).zero
      rw [e1, e2] at a1
      rw [e3]
      omega
  exact ⟨one _ _ (by omega) (by omega), one _ _ (by omega) (by omega)⟩
theorem snd_step (hP : ∀ r, r < k → 0 ≤ P r ∧ P r < (k : Int)) (hF : ∀ t, t < n → (F t).toNat < k) (hG : ∀ t, t < n → 1 ≤ G t ∧ G t ≤ 1000000) (hE : ∀ i, i < m → 0 ≤ L i ∧ L i < H i ∧ H i < (k : Int)) (hS : ∀ s, s < k → Sol k n F T G s (Ds s)) {s : (Nat → Int) × (Nat → Int)} {t : Tr} (ht : TOk m L H t) (h : Snd m P L H Ds s) : Snd m P L H Ds (stT s t) := by
  obtain ⟨a1, a2, a3, a4, a5, a6, a7⟩ := ht
  have b1 := hE t.1 a1
  have b2 := hE t.2.1 a2
  have pw := hP (L t.1).toNat (by omega)
  have px := hP (H t.1).toNat (by omega)
  have py := hP (H t.2.1).toNat (by omega)
  have c1 := h t.1 a1
  have c2 := h t.2.1 a2
  have c3 := h t.2.2 a3
  rw [a5] at c2
  have t1 := ds_tri hF hG hS (s := (P (H t.1).toNat).toNat) (u := (P (L t.1).toNat).toNat) (by omega) (by omega) _ (P (H t.2.1).toNat).toNat (by omega) (Nat.le_refl _)
  have t2 := ds_tri hF hG hS (s := (P (H t.2.1).toNat).toNat) (u := (P (L t.1).toNat).toNat) (by omega) (by omega) _ (P (H t.1).toNat).toNat (by omega) (Nat.le_refl _)
  have f1 := (hS (P (H t.1).toNat).toNat (by omega)).hi (P (H t.2.1).toNat).toNat (by omega)
  have f2 := (hS (P (H t.2.1).toNat).toNat (by omega)).hi (P (H t.1).toNat).toNat (by omega)
  rw [a6, a7] at c3
  have hu : ∀ e, e < m → Ds (P (L e).toNat).toNat (P (H e).toNat).toNat ≤ stU s t e := fun e he => by
    unfold stU
    split
    · rename_i q
      subst q
      unfold upT
      rw [a6, a7]
      omega
    · exact (h e he).1
  refine fun e he => ⟨hu e he, ?_⟩
  show Ds _ _ ≤ (if e = t.2.2 then min (s.2 t.2.2) (dnT (stU s t) s.2 t) else s.2 e)
  split
  · rename_i q
    subst q
    have d1 := hu t.1 a1
    unfold dnT
    rw [a6, a7]
    omega
  · exact (h e he).2
theorem snd_run (hP : ∀ r, r < k → 0 ≤ P r ∧ P r < (k : Int)) (hF : ∀ t, t < n → (F t).toNat < k) (hG : ∀ t, t < n → 1 ≤ G t ∧ G t ≤ 1000000) (hE : ∀ i, i < m → 0 ≤ L i ∧ L i < H i ∧ H i < (k : Int)) (hS : ∀ s, s < k → Sol k n F T G s (Ds s)) {s : (Nat → Int) × (Nat → Int)} : ∀ l : List Tr, (∀ t ∈ l, TOk m L H t) → Snd m P L H Ds s → Snd m P L H Ds (runT s l) := by
  intro l
  induction l generalizing s with
  | nil => intro _ h; exact h
  | cons t l ih =>
    intro h1 h
    exact ih (s := stT s t) (fun x hx => h1 x (by simp [hx])) (snd_step hP hF hG hE hS (h1 t (by simp)) h)
/-- No climb is less than the way. -/
theorem snd_up (hP : ∀ r, r < k → 0 ≤ P r ∧ P r < (k : Int)) (hF : ∀ t, t < n → (F t).toNat < k) (hG : ∀ t, t < n → 1 ≤ G t ∧ G t ≤ 1000000) (hE : ∀ i, i < m → 0 ≤ L i ∧ L i < H i ∧ H i < (k : Int)) (hS : ∀ s, s < k → Sol k n F T G s (Ds s)) {U V : Nat → Int} (h : Snd m P L H Ds (U, V)) {a : Nat} (ha : a < k) : ∀ i, i ≤ m → ∀ r, r < k → Ds (P a).toNat (P r).toNat ≤ cl L H U a i r
  | 0, _, r, hr => by
    have pa := hP a ha
    have pr := hP r hr
    rw [cl.eq_1]
    simp only
    split
    · rename_i e; subst e; have := (hS (P r).toNat (by omega)).zero; omega
    · exact (hS (P a).toNat (by omega)).hi _ (by omega)
  | i + 1, hi, r, hr => by
    have ih := snd_up hP hF hG hE hS h ha i (by omega)
    have pa := hP a ha
    rw [cl.eq_2]
    simp only
    split
    · rename_i e
      have b := hE i (by omega)
      have pl := hP (L i).toNat (by omega)
      have ph := hP (H i).toNat (by omega)
      have c1 := ih (H i).toNat (by omega)
      have c2 := ih (L i).toNat (by omega)
      have c3 := (h i (by omega)).1
      have c4 := ds_tri hF hG hS (s := (P a).toNat) (u := (P (L i).toNat).toNat) (by omega) (by omega) _ (P (H i).toNat).toNat (by omega) (Nat.le_refl _)
      have c5 := (hS (P a).toNat (by omega)).hi (P (H i).toNat).toNat (by omega)
      simp only at c3
      subst e
      omega
    · exact ih r hr
theorem snd_dn (hP : ∀ r, r < k → 0 ≤ P r ∧ P r < (k : Int)) (hF : ∀ t, t < n → (F t).toNat < k) (hG : ∀ t, t < n → 1 ≤ G t ∧ G t ≤ 1000000) (hE : ∀ i, i < m → 0 ≤ L i ∧ L i < H i ∧ H i < (k : Int)) (hS : ∀ s, s < k → Sol k n F T G s (Ds s)) {U V : Nat → Int} (h : Snd m P L H Ds (U, V)) {b : Nat} (hb : b < k) : ∀ i, i ≤ m → ∀ r, r < k → Ds (P r).toNat (P b).toNat ≤ cl L H V b i r
  | 0, _, r, hr => by
    have pa := hP b hb
    have pr := hP r hr
    rw [cl.eq_1]
    simp only
    split
    · rename_i e; subst e; have := (hS (P r).toNat (by omega)).zero; omega
    · exact (hS (P r).toNat (by omega)).hi _ (by omega)
  | i + 1, hi, r, hr => by
    have ih := snd_dn hP hF hG hE hS h hb i (by omega)
    have pa := hP b hb
    rw [cl.eq_2]
    simp only
    split
    · rename_i e
      have b1 := hE i (by omega)
      have pl := hP (L i).toNat (by omega)
      have ph := hP (H i).toNat (by omega)
      have c1 := ih (H i).toNat (by omega)
      have c2 := ih (L i).toNat (by omega)
      have c3 := (h i (by omega)).2
      have c4 := ds_tri hF hG hS (s := (P (H i).toNat).toNat) (u := (P (L i).toNat).toNat) (by omega) (by omega) _ (P b).toNat (by omega) (Nat.le_refl _)
      have c5 := (hS (P (H i).toNat).toNat (by omega)).hi (P b).toNat (by omega)
      simp only at c3
      subst e
      omega
    · exact ih r hr
/-- THE SHORTEST WAY: up from both ends over a customized metric. -/
theorem meet_is (E : CEnv k n m F T G P L H) (hun : ∀ i j, i < n → j < n → F i = F j → T i = T j → i = j) (hS : ∀ s, s < k → Sol k n F T G s (Ds s)) {U V : Nat → Int} (hUV : runT (w0U n F T G P L H, w0D n F T G P L H) (allT m L H m) = (U, V)) (h0U : InF m (w0U n F T G P L H)) (h0V : InF m (w0D n F T G P L H)) {a b : Nat} (ha : a < k) (hb : b < k) :
    (mt (cl L H U a m) (cl L H V b m) k).2 = Ds (P a).toNat (P b).toNat := by
  have hE := E.ei
  have hP : ∀ r, r < k → 0 ≤ P r ∧ P r < (k : Int) := fun r hr => (each_in k E.each r hr).1
  have hF : ∀ t, t < n → (F t).toNat < k := fun t ht => by
    obtain ⟨x, y, e, _, _, _, h1, _⟩ := E.arc t ht
    omega
  have hok : ∀ t ∈ allT m L H m, TOk m L H t := allT_ok E.ed E.chd.2 m
  have hIn := runT_in (s := (w0U n F T G P L H, w0D n F T G P L H)) h0U h0V _ hok
  have hle : ∀ e, U e ≤ w0U n F T G P L H e ∧ V e ≤ w0D n F T G P L H e := fun e => by
    have := runT_le (s := (w0U n F T G P L H, w0D n F T G P L H)) (j := e) (allT m L H m)
    rw [hUV] at this
    exact this
  have hT : ∀ t, TOk m L H t → okT U V t := fun t ht => by
    have := runT_ok (s := (w0U n F T G P L H, w0D n F T G P L H)) hE _ hok (allT_sorted E.ed m (Nat.le_refl _)) t (tok_mem E.ed ht)
    rw [hUV] at this
    exact this
  have hSn := snd_run hP hF E.gt hE hS _ hok (snd_init hP hE hS)
  rw [hUV] at hIn hSn
  have hU : InF m U := hIn.1
  have hV : InF m V := hIn.2
  have pa := hP a ha
  have pb := hP b hb
  apply Int.le_antisymm
  · -- no longer
    have up : ∀ N v, v < k → (Ds (P a).toNat (P v).toNat).toNat ≤ N → (mt (cl L H U a m) (cl L H V v m) k).2 ≤ Ds (P a).toNat (P v).toNat := by
      intro N
      induction N with
      | zero =>
        intro v hv hN
        have pv := hP v hv
        have l0 := (hS (P a).toNat (by omega)).lo (P v).toNat (by omega)
        by_cases e : (P v).toNat = (P a).toNat
        · have ev : v = a := E.inj v a hv ha (by omega)
          subst ev
          have z1 := cl_zero (s := v) hE hU m (Nat.le_refl _)
          have z2 := cl_zero (s := v) hE hV m (Nat.le_refl _)
          have := (mt_leS (A := cl L H U v m) (B := cl L H V v m) k).2 v hv
          omega
        · obtain ⟨t, ht, e1, e2⟩ := (hS (P a).toNat (by omega)).via (P v).toNat (by omega) e (by omega)
          have h1 := (hS (P a).toNat (by omega)).lo (F t).toNat (hF t ht)
          have h2 := E.gt t ht
          omega
      | succ N ih =>
        intro v hv hN
        have pv := hP v hv
        have l0 := (hS (P a).toNat (by omega)).lo (P v).toNat (by omega)
        have top := (mt_leS (A := cl L H U a m) (B := cl L H V v m) k).1
        by_cases e : (P v).toNat = (P a).toNat
        · have ev : v = a := E.inj v a hv ha (by omega)
          subst ev
          have z1 := cl_zero (s := v) hE hU m (Nat.le_refl _)
          have z2 := cl_zero (s := v) hE hV m (Nat.le_refl _)
          have := (mt_leS (A := cl L H U v m) (B := cl L H V v m) k).2 v hv
          omega
        by_cases hf : Ds (P a).toNat (P v).toNat < 1000000000000
        rotate_left
        · omega
        obtain ⟨t, ht, e1, e2⟩ := (hS (P a).toNat (by omega)).via (P v).toNat (by omega) e hf
        have h1 := (hS (P a).toNat (by omega)).lo (F t).toNat (hF t ht)
        have h2 := E.gt t ht
        obtain ⟨x, y, ed, hx, hy, hed, ⟨px, q1, q2⟩, ⟨py, q3, q4⟩, _, hor⟩ := E.arc t ht
        have yv : y = v := E.inj y v hy hv (by omega)
        subst yv
        have px2 : (P x).toNat = (F t).toNat := by rw [px]
        have ihx := ih x hx (by rw [px2]; omega)
        rw [px2] at ihx
        by_cases hfx : (mt (cl L H U a m) (cl L H V x m) k).2 < 1000000000000
        rotate_left
        · omega
        obtain ⟨r, hr, er⟩ := mt_atS k hfx
        have wt := lastW_at (F := F) (T := T) (G := G) (a := P x) (b := P y) (k := t) n (fun j hj h3 h4 => hun j t hj ht (by rw [h3, px]) (by rw [h4, py])) ht px.symm py.symm
        rcases hor with ⟨hxy, hL, hH⟩ | ⟨hxy, hL, hH⟩
        · have w := way_up (a := a) E.chd E.ed hE hU hV hT _ ed r hed hr (Nat.le_refl _)
          have w1 := (hle ed).1
          unfold w0U at w1
          rw [hL, hH, Int.toNat_natCast, Int.toNat_natCast, wt] at w1
          rw [hL, hH, Int.toNat_natCast, Int.toNat_natCast] at w
          omega
        · have w := way_down (a := a) (r := r) E.ed hE hV hed
          have w1 := (hle ed).2
          unfold w0D at w1
          rw [hL, hH, Int.toNat_natCast, Int.toNat_natCast, wt] at w1
          rw [hL, hH, Int.toNat_natCast, Int.toNat_natCast] at w
          have w2 := (mt_leS (A := cl L H U a m) (B := cl L H V y m) k).2 r hr
          omega
    exact up _ b hb (Nat.le_refl _)
  · by_cases hf : (mt (cl L H U a m) (cl L H V b m) k).2 < 1000000000000
    · obtain ⟨r, hr, er⟩ := mt_atS k hf
      have pr := hP r hr
      have s1 := snd_up hP hF E.gt hE hS hSn ha m (Nat.le_refl _) r hr
      have s2 := snd_dn hP hF E.gt hE hS hSn hb m (Nat.le_refl _) r hr
      have s3 := ds_tri hF E.gt hS (s := (P a).toNat) (u := (P r).toNat) (by omega) (by omega) _ (P b).toNat (by omega) (Nat.le_refl _)
      omega
    · have := (hS (P a).toNat (by omega)).hi (P b).toNat (by omega)
      omega
end

end Go.Proofs.Ytoklneimebhjdab
