/-
  What a right hierarchy says of a map, its order and its edges: the plain part.
-/
import Derived.Test.YtmnohgcjdhokdahPack3
import Derived.Test.YtmnohgcjdhokdahPack5
import Derived.Test.YtmnohgcjdhokdahHierOkP
import Derived.Test.YtmnohgcjdhokdahPack7
set_option linter.unusedVariables false
set_option linter.unusedSimpArgs false
namespace Go.Proofs.Ytmnohgcjdhokdah
open Go.RowKit Go.Maps

theorem cenv_of {p : Int} {n : Nat} {F T G : Nat → Int} {k : Nat} {P : Nat → Int} (h : ordB p n F T G k P = true) :
    CEnv k n (lstF p n F T P).length F T G P (Lf (lstF p n F T P)) (Hf (lstF p n F T P)) := by
  obtain ⟨hkp, hg, ⟨k1, k24⟩, he⟩ := ordB_parts h
  subst hkp
  obtain ⟨_, hn, hF, hT, hFT⟩ := ok_arcs hg
  have hl : lstF (k : Int) n F T P = allS (nbA F T n) P k k := by simp [lstF]
  have hlen : (lstF (k : Int) n F T P).length ≤ 1000 := by
    have := lenF_le (k : Int) n F T G k P
    unfold lenF at this
    rw [if_pos h] at this
    exact this
  rw [hl] at hlen ⊢
  have hch := fill_ok (B := nbA F T n) (P := P) k1 k24 he
  have hed : edB (k : Int) (Lf (allS (nbA F T n) P k k)) (Hf (allS (nbA F T n) P k k)) (allS (nbA F T n) P k k).length = true := by
    have := hch.1
    simp [edgesB] at this
    exact this.2
  have hinj : ∀ i j, i < k → j < k → P i = P j → i = j := fun i j hi hj e => by
    by_cases hij : i = j
    · exact hij
    · exact absurd (by rw [e]) (place_ne he hi hj hij)
  refine ⟨k1, k24, hn, hlen, he, hch, hed, fun j hj => edgeB_in (edB_at _ hed j hj), hinj, fun t ht => ?_, fun t ht => ?_⟩
  · have := (arcsB_each n (graphB_arcs hg).2 t ht).1
    simp [arcB, inB] at this
    omega
  · obtain ⟨f0, f1⟩ := hF t ht
    obtain ⟨t0, t1⟩ := hT t ht
    obtain ⟨x, hx, ex, rx⟩ := rk_of he (-1) (q := (F t).toNat) (by omega)
    obtain ⟨y, hy, ey, ry⟩ := rk_of he (-1) (q := (T t).toNat) (by omega)
    have ex' : P x = F t := by rw [ex]; omega
    have ey' : P y = T t := by rw [ey]; omega
    have hxy : x ≠ y := fun e => hFT t ht (by rw [← ex', ← ey', e])
    have hmem := fill_arc he (fair_nbA n (fun q hq => by have a1 := hF q hq; have a2 := hT q hq; have a3 := hFT q hq; omega)) ht ⟨f0, f1⟩ ⟨t0, t1⟩ (hFT t ht) hx hy ex' ey'
    obtain ⟨e, hel, hee⟩ := List.getElem_of_mem hmem
    have hL : Lf (allS (nbA F T n) P k k) e = min (x : Int) y := by
      unfold Lf; rw [getD_at hel, hee]
    have hH : Hf (allS (nbA F T n) P k k) e = max (x : Int) y := by
      unfold Hf; rw [getD_at hel, hee]
    refine ⟨x, y, e, hx, hy, hel, ⟨ex', f0, f1⟩, ⟨ey', t0, t1⟩, ⟨rx, ry⟩, ?_⟩
    rw [hL, hH]
    by_cases hlt : x < y
    · left; omega
    · right; omega

/-- What Customize answers. -/
def cusT (p : Int) (n : Nat) (F T G P : Nat → Int) : (Nat → Int) × (Nat → Int) :=
  runT (w0U n F T G P (Lf (lstF p n F T P)) (Hf (lstF p n F T P)), w0D n F T G P (Lf (lstF p n F T P)) (Hf (lstF p n F T P))) (allT (lstF p n F T P).length (Lf (lstF p n F T P)) (Hf (lstF p n F T P)) (lstF p n F T P).length)
open Classical in
noncomputable def lenM (p : Int) (n : Nat) (F T G : Nat → Int) (k : Nat) (P : Nat → Int) (m : Nat) (L H : Nat → Int) : Nat := if HOk p n F T G k P m L H then m else 0
theorem lenM_yes {p : Int} {n : Nat} {F T G : Nat → Int} {k : Nat} {P : Nat → Int} {m : Nat} {L H : Nat → Int} (h : HOk p n F T G k P m L H) : lenM p n F T G k P m L H = m := by unfold lenM; rw [if_pos h]
theorem lenM_no {p : Int} {n : Nat} {F T G : Nat → Int} {k : Nat} {P : Nat → Int} {m : Nat} {L H : Nat → Int} (h : ¬ HOk p n F T G k P m L H) : lenM p n F T G k P m L H = 0 := by unfold lenM; rw [if_neg h]
theorem hok_len {p : Int} {n : Nat} {F T G : Nat → Int} {k : Nat} {P : Nat → Int} {m : Nat} {L H : Nat → Int} (h : HOk p n F T G k P m L H) : m = (lstF p n F T P).length ∧ (∀ i, i < m → L i = Lf (lstF p n F T P) i ∧ H i = Hf (lstF p n F T P) i) := by
  obtain ⟨h1, h2, h3⟩ := h
  unfold lenF at h2
  rw [if_pos h1] at h2
  exact ⟨h2, h3⟩
theorem lenM_le (p : Int) (n : Nat) (F T G : Nat → Int) (k : Nat) (P : Nat → Int) (m : Nat) (L H : Nat → Int) : lenM p n F T G k P m L H ≤ 1000 := by
  by_cases h : HOk p n F T G k P m L H
  · rw [lenM_yes h, (hok_len h).1]
    exact (cenv_of h.1).m1000
  · rw [lenM_no h]; omega
theorem CEnv.wf {k n m : Nat} {F T G P L H : Nat → Int} (h : CEnv k n m F T G P L H) : EWf L H m := fun j hj => by
  have := h.ei j hj
  have := h.k24
  exact ⟨WalkArith.wf_i64 (by omega), WalkArith.wf_i64 (by omega)⟩

end Go.Proofs.Ytmnohgcjdhokdah
