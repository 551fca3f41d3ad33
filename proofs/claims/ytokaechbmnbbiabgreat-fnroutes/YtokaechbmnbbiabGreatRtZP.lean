/-
  What Route answers, as a list in memory; how long it can be.
-/
import Derived.Test.YtokaechbmnbbiabGreatRtIP
set_option linter.unusedVariables false
set_option linter.unusedSimpArgs false
namespace Go.Proofs.YtokaechbmnbbiabGreat
open Go.RowKit

/-- A list of numbers of its own and a number. -/
def AnsI (w w' : World) (e : Ending) (N : Nat) (D : Nat → Int) (z : Int) : Prop := ∃ ao cap, e = .returned (.tuple #[.slice ao N cap, .int .i64 z]) ∧ (0 < N → ∃ g, ao = some ⟨g, 0, none⟩ ∧ w.heap.size ≤ g ∧ IHas w' g N D) ∧ Below w.heap.size w w'
theorem ansI_of_rt {w w' : World} {e : Ending} {r : List Int × Int} (h : RtAns w w' e r) : AnsI w w' e r.1.length (fun j => r.1.getD j 0) r.2 := by
  obtain ⟨ao, cap, h1, h2, h3⟩ := h
  refine ⟨ao, cap, h1, fun h0 => ?_, h3⟩
  obtain ⟨g, rfl, hg, hO⟩ := h2 h0
  obtain ⟨g', e', hb, hh⟩ := hO.ownE.has h0
  cases e'
  exact ⟨g, rfl, hg, hh⟩
theorem rtA_len (p : Int) (n : Nat) (F T G : Nat → Int) (k : Nat) (P : Nat → Int) (m : Nat) (L H : Nat → Int) (u : Nat) (U : Nat → Int) (v : Nat) (V : Nat → Int) (a b : Int) : (rtA p n F T G k P m L H u U v V a b).1.length ≤ 1000000000 := by
  unfold rtA
  split
  · next h =>
    obtain ⟨⟨hH, _, _⟩, hRa, hRb⟩ := h
    have D := gd_can hH.1
    have CE := cenv_of hH.1
    have hM := mok_can hH.1
    have hk24 : k ≤ 24 := by have := (ordB_parts hH.1).2.2.1; have := (ordB_parts hH.1).1; omega
    unfold rtC
    simp only
    split
    · simp
    · next hno =>
      rcases mt_is (A := cl (Lf (lstF p n F T P)) (Hf (lstF p n F T P)) (cusT p n F T G P).1 (rk P (-1) k a.toNat).toNat (lstF p n F T P).length) (B := cl (Lf (lstF p n F T P)) (Hf (lstF p n F T P)) (cusT p n F T G P).2 (rk P (-1) k b.toNat).toNat (lstF p n F T P).length) k with hx | ⟨tn, htn, hmt, hsl⟩
      · rw [hx] at hno
        exact absurd rfl hno
      · rw [hmt]
        have := rtW_len (cn p n F T G P) (clb_cl CE.ed D.ed hM.2.2.2.1) (clb_cl CE.ed D.ed hM.2.2.2.2.1) D.ed (ra := (rk P (-1) k a.toNat).toNat) (rb := (rk P (-1) k b.toNat).toNat) (top := tn) (by omega)
        unfold rtW
        simp only [List.length_cons, Int.toNat_natCast]
        omega
  · simp

end Go.Proofs.YtokaechbmnbbiabGreat
