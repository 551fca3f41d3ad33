/-
  The distance by a customized metric is that of the map, plainly, at any two places.
-/
import Derived.Test.YtoklneimebhjdabShCQ
import Derived.Test.YtoklneimebhjdabShEQ
import Derived.Test.YtoklneimebhjdabPack9
import Derived.Test.YtoklneimebhjdabMtgSQ
set_option linter.unusedVariables false
set_option linter.unusedSimpArgs false
namespace Go.Proofs.Ytoklneimebhjdab

theorem rk_ex {P : Nat → Int} : ∀ k q, sn P k q = true → ∃ x, x < k ∧ P x = (q : Int) ∧ rk P (-1) k q = (x : Int)
  | 0, q, h => by simp [sn] at h
  | k + 1, q, h => by
    by_cases e : P k = (q : Int)
    · exact ⟨k, by omega, e, by unfold rk; rw [if_pos e]⟩
    · rw [sn_succ] at h
      have : sn P k q = true := by simpa [e] using h
      obtain ⟨x, hx, e1, e2⟩ := rk_ex k q this
      exact ⟨x, by omega, e1, by unfold rk; rw [if_neg e]; exact e2⟩
theorem dst_is {p : Int} {n k : Nat} {F T G P : Nat → Int} (h : ordB p n F T G k P = true) {Ds : Nat → Nat → Int} (hS : ∀ s, s < k → Sol k n F T G s (Ds s)) {CU CD : Nat → Int} (hC : cusT p n F T G P = (CU, CD)) {i j : Nat} (hi : i < k) (hj : j < k) :
    dst k P (lstF p n F T P).length (Lf (lstF p n F T P)) (Hf (lstF p n F T P)) (lstF p n F T P).length CU (lstF p n F T P).length CD (i : Int) (j : Int) = Ds i j := by
  have E := cenv_of h
  obtain ⟨hkp, hg, ⟨k1, k24⟩, he⟩ := ordB_parts h
  have hun : ∀ i j, i < n → j < n → F i = F j → T i = T j → i = j := fun i j h1 h2 h3 h4 => unique (graphB_arcs hg).2 h1 h2 h3 h4
  have hw : ∀ a b, 0 ≤ lastW F T G a b n ∧ lastW F T G a b n ≤ 1000000000000 := fun a b => by
    rcases lastW_or (F := F) (T := T) (G := G) (a := a) (b := b) n with e | ⟨t, ht, _, _, e⟩
    · omega
    · have := E.gt t ht; omega
  unfold cusT at hC
  generalize (lstF p n F T P).length = m at E hC ⊢
  generalize Lf (lstF p n F T P) = L at E hC ⊢
  generalize Hf (lstF p n F T P) = H at E hC ⊢
  have h0U : InF m (w0U n F T G P L H) := fun _ _ => hw _ _
  have h0V : InF m (w0D n F T G P L H) := fun _ _ => hw _ _
  have hIn := runT_in (s := (w0U n F T G P L H, w0D n F T G P L H)) h0U h0V _ (allT_ok E.ed E.chd.2 m)
  rw [hC] at hIn
  have hT : TOld k m L H m CU m CD := ⟨E.chd.1, rfl, rfl, hIn.1, hIn.2⟩
  have hok : okR k P = true := by simp [okR, he]; omega
  obtain ⟨x, hx, ex, rx⟩ := rk_ex k i (each_all he i hi)
  obtain ⟨y, hy, ey, ry⟩ := rk_ex k j (each_all he j hj)
  rw [dst_yes hok ⟨by omega, by omega⟩ ⟨by omega, by omega⟩, Int.toNat_natCast, Int.toNat_natCast, rx, ry, mtg_yes hT ⟨by omega, by omega⟩ ⟨by omega, by omega⟩, Int.toNat_natCast, Int.toNat_natCast, meet_is E hun hS hC h0U h0V hx hy, ex, ey, Int.toNat_natCast, Int.toNat_natCast]

end Go.Proofs.Ytoklneimebhjdab
