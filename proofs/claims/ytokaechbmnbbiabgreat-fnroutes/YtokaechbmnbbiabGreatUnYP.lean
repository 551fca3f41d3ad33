/-
  Plain: the net of a right map and order is right; a way that is unpacked has no more places than ranks below it and two.
-/
import Derived.Test.YtokaechbmnbbiabGreatUnVP
import Derived.Test.YtokaechbmnbbiabGreatUnXP
set_option linter.unusedVariables false
set_option linter.unusedSimpArgs false
namespace Go.Proofs.YtokaechbmnbbiabGreat

theorem lastW_one {F T G : Nat → Int} {a b : Int} : ∀ n, (∀ t, t < n → 1 ≤ G t ∧ G t ≤ 1000000) → 1 ≤ lastW F T G a b n
  | 0, _ => by simp [lastW]
  | n + 1, h => by
    unfold lastW
    split
    · exact (h n (by omega)).1
    · exact lastW_one n (fun t ht => h t (by omega))
theorem lastW_some {F T G : Nat → Int} {a b : Int} : ∀ n, lastW F T G a b n < 1000000000000 → ∃ t, t < n ∧ F t = a ∧ T t = b
  | 0, h => by simp [lastW] at h
  | n + 1, h => by
    unfold lastW at h
    split at h
    · next e => exact ⟨n, by omega, e.1, e.2⟩
    · obtain ⟨t, h1, h2⟩ := lastW_some n h
      exact ⟨t, by omega, h2⟩
theorem cn_right {p : Int} {n : Nat} {F T G : Nat → Int} {k : Nat} {P : Nat → Int} (h : ordB p n F T G k P = true) : (cn p n F T G P).Right k := by
  have C := cenv_of h
  have hS := allT_sorted C.ed (lstF p n F T P).length (Nat.le_refl _)
  have hok := allT_ok C.ed C.chd.2 (lstF p n F T P).length
  have hrt := runT_ok (s := (w0U n F T G P (Lf (lstF p n F T P)) (Hf (lstF p n F T P)), w0D n F T G P (Lf (lstF p n F T P)) (Hf (lstF p n F T P)))) C.ei _ hok hS
  have hle := fun j => runT_le (s := (w0U n F T G P (Lf (lstF p n F T P)) (Hf (lstF p n F T P)), w0D n F T G P (Lf (lstF p n F T P)) (Hf (lstF p n F T P)))) (j := j) (allT (lstF p n F T P).length (Lf (lstF p n F T P)) (Hf (lstF p n F T P)) (lstF p n F T P).length)
  have eU : (runT (w0U n F T G P (Lf (lstF p n F T P)) (Hf (lstF p n F T P)), w0D n F T G P (Lf (lstF p n F T P)) (Hf (lstF p n F T P))) (allT (lstF p n F T P).length (Lf (lstF p n F T P)) (Hf (lstF p n F T P)) (lstF p n F T P).length)) = cusT p n F T G P := rfl
  rw [eU] at hrt
  simp only [eU] at hle
  clear eU hS hok
  unfold cn
  generalize (cusT p n F T G P).1 = Uc at hrt hle ⊢
  generalize (cusT p n F T G P).2 = Vc at hrt hle ⊢
  generalize Lf (lstF p n F T P) = Lc at hrt hle C ⊢
  generalize Hf (lstF p n F T P) = Hc at hrt hle C ⊢
  generalize (lstF p n F T P).length = m at hrt hle C ⊢
  have hsE : ∀ (a b e : Nat), e < m → Lc e = (a : Int) → Hc e = (b : Int) → hsB m Lc Hc (a : Int) (b : Int) = true ∧ fnd Lc Hc (a : Int) (b : Int) m = e := fun a b e he h1 h2 => ⟨hsB_iff.2 ⟨e, he, h1, h2⟩, fnd_is C.ed he h1 h2⟩
  refine ⟨fun a b => lastW_one n C.gt, fun a b ha hb hab hf => ?_, fun r a b hra hrb ha hb hab h1 h2 => ?_⟩
  · obtain ⟨t, ht, hF, hT⟩ := lastW_some n hf
    obtain ⟨x, y, e, hx, hy, he, ⟨px, _, _⟩, ⟨py, _, _⟩, _, hLH⟩ := C.arc t ht
    have ex : x = a := C.inj x a hx ha (px.trans hF)
    have ey : y = b := C.inj y b hy hb (py.trans hT)
    subst ex
    subst ey
    have hle' := hle e
    rcases hLH with ⟨hL, hH⟩ | ⟨hL, hH⟩
    · have hei := C.ei e he
      have hxy : x < y := by omega
      have hq := hsE x y e he (by omega) (by omega)
      refine ⟨?_, ?_⟩
      · show hsB m Lc Hc ((min x y : Nat) : Int) ((max x y : Nat) : Int) = true
        rw [show min x y = x by omega, show max x y = y by omega]
        exact hq.1
      · unfold Net.dw
        rw [if_pos hxy]
        show Uc (fnd Lc Hc (x : Int) (y : Int) m) ≤ lastW F T G (P x) (P y) n
        rw [hq.2]
        refine Int.le_trans hle'.1 ?_
        show lastW F T G (P (Lc e).toNat) (P (Hc e).toNat) n ≤ _
        rw [show (Lc e).toNat = x by omega, show (Hc e).toNat = y by omega]
        exact Int.le_refl _
    · have hei := C.ei e he
      have hxy : y < x := by omega
      have hq := hsE y x e he (by omega) (by omega)
      refine ⟨?_, ?_⟩
      · show hsB m Lc Hc ((min x y : Nat) : Int) ((max x y : Nat) : Int) = true
        rw [show min x y = y by omega, show max x y = x by omega]
        exact hq.1
      · unfold Net.dw
        rw [if_neg (by omega)]
        show Vc (fnd Lc Hc (y : Int) (x : Int) m) ≤ lastW F T G (P x) (P y) n
        rw [hq.2]
        refine Int.le_trans hle'.2 ?_
        show lastW F T G (P (Hc e).toNat) (P (Lc e).toNat) n ≤ _
        rw [show (Lc e).toNat = y by omega, show (Hc e).toNat = x by omega]
        exact Int.le_refl _
  · have h1' : hsB m Lc Hc (r : Int) (a : Int) = true := h1
    have h2' : hsB m Lc Hc (r : Int) (b : Int) = true := h2
    have f1 := fnd_at m (hsB_iff.1 h1')
    have f2 := fnd_at m (hsB_iff.1 h2')
    have key : ∀ (i j c d : Nat), i < m → j < m → Lc i = (r : Int) → Lc j = (r : Int) → Hc i = (c : Int) → Hc j = (d : Int) → c < d → hsB m Lc Hc (c : Int) (d : Int) = true ∧ Uc (fnd Lc Hc (c : Int) (d : Int) m) ≤ Vc i + Uc j ∧ Vc (fnd Lc Hc (c : Int) (d : Int) m) ≤ Vc j + Uc i := by
      intro i j c d hi hj hLi hLj hHi hHj hcd
      have hij : i < j := by
        rcases Nat.lt_trichotomy i j with q | q | q
        · exact q
        · subst q; omega
        · have := ed_rise m C.ed i hi j q; omega
      have ht := tok_of C.ed C.chd.2 hij hj (by rw [hLj, hLi])
      have hm := tok_mem C.ed ht
      have ho := hrt _ hm
      obtain ⟨b1, b2, b3, b4, b5, b6, b7⟩ := ht
      simp only at b3 b6 b7
      rw [hHi, hHj] at b3 b6 b7
      unfold okT upT dnT at ho
      simp only at ho
      rw [hHi, hHj] at ho
      exact ⟨hsB_iff.2 ⟨_, b3, b6, b7⟩, by omega, by omega⟩
    by_cases hlt : a < b
    · have hk := key _ _ a b f1.1 f2.1 f1.2.1 f2.2.1 f1.2.2 f2.2.2 hlt
      refine ⟨?_, ?_⟩
      · show hsB m Lc Hc ((min a b : Nat) : Int) ((max a b : Nat) : Int) = true
        rw [show min a b = a by omega, show max a b = b by omega]
        exact hk.1
      · unfold Net.dw
        rw [if_pos hlt]
        exact hk.2.1
    · have hk := key _ _ b a f2.1 f1.1 f2.2.1 f1.2.1 f2.2.2 f1.2.2 (by omega)
      refine ⟨?_, ?_⟩
      · show hsB m Lc Hc ((min a b : Nat) : Int) ((max a b : Nat) : Int) = true
        rw [show min a b = b by omega, show max a b = a by omega]
        exact hk.1
      · unfold Net.dw
        rw [if_neg hlt]
        exact hk.2.2
/-- The way of a step by its ranks, the inner ones and the last. -/
theorem Net.wy_ranks (x : Net) : ∀ (lo hi : Nat) (up : Bool), ∃ l : List Nat, (∀ r ∈ l, r < lo) ∧ x.wy lo hi up = (l ++ [toR lo hi up]).map x.O := by
  intro lo
  induction lo using Nat.strongRecOn with
  | ind lo ih =>
    intro hi up
    cases h : x.half lo hi up with
    | none => exact ⟨[], by simp, by rw [Net.wy_none h]; rfl⟩
    | some w =>
      have hw := x.half_lt h
      obtain ⟨l1, a1, e1⟩ := ih w hw (frR lo hi up) false
      obtain ⟨l2, a2, e2⟩ := ih w hw (toR lo hi up) true
      refine ⟨l1 ++ w :: l2, fun r hr => ?_, ?_⟩
      · rcases List.mem_append.1 hr with q | q
        · have := a1 r q; omega
        · rcases List.mem_cons.1 q with q | q
          · omega
          · have := a2 r q; omega
      · rw [Net.wy_some h, e1, e2]
        simp [toR]
theorem Net.sum_ranks (x : Net) : ∀ (l : List Nat) (a : Nat), x.sum (x.O a) (l.map x.O) = x.sr a l
  | [], a => rfl
  | b :: l, a => by
    simp only [List.map_cons, Net.sum, Net.sr, Net.sum_ranks x l b]
theorem Net.wy_short {x : Net} {k : Nat} (hT : x.Tight) (hR : x.Right k) (hD : ∀ a b, x.hs a b = true → 0 ≤ x.D a b) (hU : ∀ a b, x.hs a b = true → 0 ≤ x.U a b) {lo hi : Nat} {up : Bool} (hlt : lo < hi) (hhk : hi < k) (hs : x.hs lo hi = true) (hf : x.wt lo hi up < 1000000000000) : (x.wy lo hi up).length ≤ lo + 1 := by
  have hsum := Net.wy_sum hT hD hU lo hi up hlt hs hf
  obtain ⟨l, hl, e⟩ := x.wy_ranks lo hi up
  rw [e, x.sum_ranks] at hsum
  have hdw : x.dw (frR lo hi up) (toR lo hi up) = x.wt lo hi up := by
    unfold Net.dw Net.wt frR toR
    cases up
    · simp only [Bool.false_eq_true, if_false]
      rw [if_neg (by omega)]
    · simp only [if_true]
      rw [if_pos hlt]
  have := Net.once hR (q := lo) (a := frR lo hi up) (b := toR lo hi up) (l := l) hl (by unfold frR; split <;> omega) (by unfold toR; split <;> omega) (by unfold frR; split <;> omega) (by unfold toR; split <;> omega) (by unfold frR toR; split <;> omega) (by rw [hsum]; exact hf) (by rw [hsum, hdw]; exact Int.le_refl _)
  rw [e]
  simp only [List.length_map, List.length_append, List.length_singleton]
  omega

end Go.Proofs.YtokaechbmnbbiabGreat
