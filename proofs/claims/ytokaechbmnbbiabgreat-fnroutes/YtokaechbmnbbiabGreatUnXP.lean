/-
  Plain: the net of a right map and order is tight.
-/
import Derived.Test.YtokaechbmnbbiabGreatUnWP
import Derived.Test.YtokaechbmnbbiabGreatUnBP
set_option linter.unusedVariables false
set_option linter.unusedSimpArgs false
namespace Go.Proofs.YtokaechbmnbbiabGreat

theorem cn_tight {p : Int} {n : Nat} {F T G : Nat → Int} {k : Nat} {P : Nat → Int} (h : ordB p n F T G k P = true) : (cn p n F T G P).Tight := by
  intro lo hi up hlt hs hnone
  have C := cenv_of h
  unfold cn at hs hnone ⊢
  have htt := runT_tight (k := k) (m := (lstF p n F T P).length) (L := Lf (lstF p n F T P)) (H := Hf (lstF p n F T P)) (s := (w0U n F T G P (Lf (lstF p n F T P)) (Hf (lstF p n F T P)), w0D n F T G P (Lf (lstF p n F T P)) (Hf (lstF p n F T P)))) C.ei (allT (lstF p n F T P).length (Lf (lstF p n F T P)) (Hf (lstF p n F T P)) (lstF p n F T P).length) (allT_ok C.ed C.chd.2 _) (allT_sorted C.ed _ (Nat.le_refl _))
  have hok := allT_ok C.ed C.chd.2 (lstF p n F T P).length
  have hed := C.ed
  have hei := C.ei
  have eU : (runT (w0U n F T G P (Lf (lstF p n F T P)) (Hf (lstF p n F T P)), w0D n F T G P (Lf (lstF p n F T P)) (Hf (lstF p n F T P))) (allT (lstF p n F T P).length (Lf (lstF p n F T P)) (Hf (lstF p n F T P)) (lstF p n F T P).length)) = cusT p n F T G P := rfl
  rw [eU] at htt
  clear eU C
  generalize (cusT p n F T G P).1 = Uc at htt hs hnone ⊢
  generalize (cusT p n F T G P).2 = Vc at htt hs hnone ⊢
  generalize Lf (lstF p n F T P) = Lc at htt hok hed hei hs hnone ⊢
  generalize Hf (lstF p n F T P) = Hc at htt hok hed hei hs hnone ⊢
  generalize (lstF p n F T P).length = m at htt hok hed hei hs hnone ⊢
  have hs' : hsB m Lc Hc lo hi = true := hs
  obtain ⟨e, he⟩ : ∃ e, fnd Lc Hc lo hi m = e := ⟨_, rfl⟩
  have hat := fnd_at m (hsB_iff.1 hs')
  rw [he] at hat
  obtain ⟨hem, hLe, hHe⟩ := hat
  cases hA : (netOf n F T G P m Lc Hc Uc Vc).isA lo hi up with
  | true => rfl
  | false =>
    exfalso
    have hfst : (netOf n F T G P m Lc Hc Uc Vc).fst lo hi up = none := by
      have := hnone
      unfold Net.half at this
      rw [if_neg (by simp [hA])] at this
      exact this
    unfold Net.fst at hfst
    rw [List.find?_eq_none] at hfst
    have key : ∀ t ∈ allT m Lc Hc m, t.2.2 = e → addF (if up = true then Vc t.1 else Vc t.2.1) (if up = true then Uc t.2.1 else Uc t.1) = (if up = true then Uc e else Vc e) → False := by
      intro t ht hte hsum
      obtain ⟨b1, b2, b3, b4, b5, b6, b7⟩ := hok t ht
      rw [hte, hLe] at b6
      rw [hte, hHe] at b7
      have c1 := hei t.1 b1
      have c2 := hei t.2.1 b2
      obtain ⟨w, hw⟩ : ∃ w : Nat, Lc t.1 = (w : Int) := ⟨(Lc t.1).toNat, by omega⟩
      have hwlo : w < lo := by omega
      have f1 : fnd Lc Hc (w : Int) (lo : Int) m = t.1 := fnd_is hed b1 hw b6.symm
      have f2 : fnd Lc Hc (w : Int) (hi : Int) m = t.2.1 := fnd_is hed b2 (b5.trans hw) b7.symm
      have s1 : hsB m Lc Hc (w : Int) (lo : Int) = true := hsB_iff.2 ⟨t.1, b1, hw, b6.symm⟩
      have s2 : hsB m Lc Hc (w : Int) (hi : Int) = true := hsB_iff.2 ⟨t.2.1, b2, b5.trans hw, b7.symm⟩
      refine hfst w (by simpa using hwlo) ?_
      cases up
      · simp only [Bool.false_eq_true, if_false] at hsum
        simp [Net.fit, netOf, frR, toR, Net.wt, s1, s2, f1, f2, he, hsum]
      · simp only [if_true] at hsum
        simp [Net.fit, netOf, frR, toR, Net.wt, s1, s2, f1, f2, he, hsum]
    unfold Net.isA at hA
    cases up
    · simp only [Bool.false_eq_true, if_false] at key
      rcases (htt e).2 with h1 | ⟨t, ht, h2, h3⟩
      · refine absurd ?_ (of_decide_eq_false hA)
        simp only [netOf, frR, toR, Net.wt, Bool.false_eq_true, if_false, he]
        rw [h1]
        simp only [w0D, hLe, hHe, Int.toNat_natCast]
      · exact key t ht h2 (by rw [h3]; rfl)
    · simp only [if_true] at key
      rcases (htt e).1 with h1 | ⟨t, ht, h2, h3⟩
      · refine absurd ?_ (of_decide_eq_false hA)
        simp only [netOf, frR, toR, Net.wt, if_true, he]
        rw [h1]
        simp only [w0U, hLe, hHe, Int.toNat_natCast]
      · exact key t ht h2 (by rw [h3]; rfl)

end Go.Proofs.YtokaechbmnbbiabGreat
