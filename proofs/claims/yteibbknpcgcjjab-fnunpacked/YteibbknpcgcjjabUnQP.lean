/-
  Plain: what stands of a way that Unpack answers.
-/
import Derived.Test.YteibbknpcgcjjabUnZP
set_option linter.unusedVariables false
set_option linter.unusedSimpArgs false
namespace Go.Proofs.Yteibbknpcgcjjab

/-- The way that Unpack answers. -/
def unW (p : Int) (n : Nat) (F T G P : Nat → Int) (a c : Int) (up : Bool) : List Int := P (frR a.toNat c.toNat up) :: (cn p n F T G P).wy a.toNat c.toNat up
theorem unL_yes {p : Int} {n : Nat} {F T G : Nat → Int} {k : Nat} {P : Nat → Int} {m : Nat} {L H : Nat → Int} {u : Nat} {U : Nat → Int} {v : Nat} {V : Nat → Int} {a c : Int} {up : Bool} (h : UnY p n F T G k P m L H u U v V a c up) : unL p n F T G k P m L H u U v V a c up = unW p n F T G P a c up := by
  unfold unL
  rw [if_pos h]
  rfl
theorem unL_no {p : Int} {n : Nat} {F T G : Nat → Int} {k : Nat} {P : Nat → Int} {m : Nat} {L H : Nat → Int} {u : Nat} {U : Nat → Int} {v : Nat} {V : Nat → Int} {a c : Int} {up : Bool} (h : ¬ UnY p n F T G k P m L H u U v V a c up) : unL p n F T G k P m L H u U v V a c up = [] := by
  unfold unL
  rw [if_neg h]
structure UnFacts (p : Int) (n : Nat) (F T G : Nat → Int) (k : Nat) (P : Nat → Int) (a c : Int) (up : Bool) : Prop where
  a0 : 0 ≤ a ∧ a < c ∧ c < k
  len : 2 ≤ (unW p n F T G P a c up).length ∧ (unW p n F T G P a c up).length ≤ 40
  fits : lenOf p n F T G (unW p n F T G P a c up).length (fun j => (unW p n F T G P a c up).getD j 0) = (cn p n F T G P).wt a.toNat c.toNat up
  each : ∀ i, i < (unW p n F T G P a c up).length → ∃ r : Nat, r < k ∧ (unW p n F T G P a c up).getD i 0 = P r
  inner : ∀ i, 1 ≤ i → i + 1 < (unW p n F T G P a c up).length → ∃ r : Nat, (r : Int) < a ∧ (unW p n F T G P a c up).getD i 0 = P r
  first : (unW p n F T G P a c up).getD 0 0 = P (frR a.toNat c.toNat up)
  last : (unW p n F T G P a c up).getD ((unW p n F T G P a c up).length - 1) 0 = P (toR a.toNat c.toNat up)
theorem un_facts {p : Int} {n : Nat} {F T G : Nat → Int} {k : Nat} {P : Nat → Int} {m : Nat} {L H : Nat → Int} {u : Nat} {U : Nat → Int} {v : Nat} {V : Nat → Int} {a c : Int} {up : Bool} (h : UnY p n F T G k P m L H u U v V a c up) : UnFacts p n F T G k P a c up := by
  obtain ⟨⟨hH, _, _⟩, hs, hf⟩ := h
  have ho := hH.1
  have D := gd_can ho
  have C := cenv_of ho
  obtain ⟨hkp, hg, ⟨k1, k24⟩, he⟩ := ordB_parts ho
  have hT := cn_tight ho
  have hR := cn_right ho
  have hat := fnd_at _ (hsB_iff.1 hs)
  have hed := D.ed _ hat.1
  rw [hat.2.1, hat.2.2] at hed
  have hlo : ((a.toNat : Nat) : Int) = a := by omega
  have hhi : ((c.toNat : Nat) : Int) = c := by omega
  have hlt : a.toNat < c.toNat := by omega
  have hck : c.toNat < k := by omega
  have hD : ∀ x y, (cn p n F T G P).hs x y = true → 0 ≤ (cn p n F T G P).D x y := fun x y hxy => (D.dn _ (fnd_at _ (hsB_iff.1 hxy)).1).1
  have hU : ∀ x y, (cn p n F T G P).hs x y = true → 0 ≤ (cn p n F T G P).U x y := fun x y hxy => (D.up _ (fnd_at _ (hsB_iff.1 hxy)).1).1
  have hs' : (cn p n F T G P).hs a.toNat c.toNat = true := by
    show hsB _ _ _ ((a.toNat : Nat) : Int) ((c.toNat : Nat) : Int) = true
    rw [hlo, hhi]
    exact hs
  have hwle : (cn p n F T G P).wt a.toNat c.toNat up ≤ 1000000000000 := by
    have h1 := fnd_at _ (hsB_iff.1 hs')
    unfold Net.wt
    split
    · exact (D.up _ h1.1).2
    · exact (D.dn _ h1.1).2
  have hwf : (cn p n F T G P).wt a.toNat c.toNat up < 1000000000000 := by omega
  have hsum := Net.wy_sum hT hD hU a.toNat c.toNat up hlt hs' hwf
  have hshort := Net.wy_short hT hR hD hU (up := up) hlt hck hs' hwf
  have hl1 := ((cn p n F T G P).wy_len a.toNat c.toNat up).1
  obtain ⟨l, hl, e⟩ := (cn p n F T G P).wy_ranks a.toNat c.toNat up
  have hO : ∀ r, (cn p n F T G P).O r = P r := fun r => rfl
  have hlen : (unW p n F T G P a c up).length = l.length + 2 := by
    unfold unW
    rw [e]
    simp
  have hfk : frR a.toNat c.toNat up < k := by unfold frR; split <;> omega
  have htk : toR a.toNat c.toNat up < k := by unfold toR; split <;> omega
  have hat0 : ∀ i r, (frR a.toNat c.toNat up :: (l ++ [toR a.toNat c.toNat up]))[i]? = some r → (unW p n F T G P a c up).getD i 0 = P r := fun i r hi => by
    have : unW p n F T G P a c up = (frR a.toNat c.toNat up :: (l ++ [toR a.toNat c.toNat up])).map P := by
      unfold unW
      rw [e]
      rfl
    rw [this, List.getD_eq_getElem?_getD, List.getElem?_map, hi]
    rfl
  have hlk : l.length + 1 = ((cn p n F T G P).wy a.toNat c.toNat up).length := by rw [e]; simp
  have heach : ∀ i, i < (unW p n F T G P a c up).length → ∃ r : Nat, r < k ∧ (unW p n F T G P a c up).getD i 0 = P r := fun i hi => by
    rw [hlen] at hi
    have hi' : i < (frR a.toNat c.toNat up :: (l ++ [toR a.toNat c.toNat up])).length := by simp; omega
    refine ⟨_, ?_, hat0 i _ (List.getElem?_eq_getElem hi')⟩
    have hm := List.getElem_mem hi'
    rcases List.mem_cons.1 hm with q | q
    · rw [q]; exact hfk
    · rcases List.mem_append.1 q with q | q
      · have := hl _ q; omega
      · simp only [List.mem_singleton] at q
        rw [q]; exact htk
  refine ⟨hed, ⟨by omega, by omega⟩, ?_, heach, ?_, ?_, ?_⟩
  · unfold lenOf
    rw [if_pos ⟨hg, by omega, by omega, allIn_of _ (fun i hi => by
      obtain ⟨r, hr, e2⟩ := heach i hi
      have h1 := (each_in _ he r hr).1
      simp only [e2]
      simp [inB]
      omega)⟩]
    have hps := ps_sum (x := cn p n F T G P) (n := n) (F := F) (T := T) (G := G) (fun _ _ => rfl) (fun x y => by
      show 0 ≤ lastW F T G x y n
      have := lastW_one (F := F) (T := T) (a := x) (b := y) n C.gt
      omega) (l := (cn p n F T G P).wy a.toNat c.toNat up) (a := P (frR a.toNat c.toNat up)) (by
      rw [← hO, hsum]; exact hwf) ((cn p n F T G P).wy a.toNat c.toNat up).length (Nat.le_refl _)
    rw [List.take_length, ← hO, hsum] at hps
    have e3 : (unW p n F T G P a c up).length - 1 = ((cn p n F T G P).wy a.toNat c.toNat up).length := by rw [hlen]; omega
    rw [e3]
    exact hps
  · intro i h1 h2
    rw [hlen] at h2
    obtain ⟨i', rfl⟩ : ∃ i', i = i' + 1 := ⟨i - 1, by omega⟩
    have hi' : i' < l.length := by omega
    have hmem := hl _ (List.getElem_mem hi')
    refine ⟨l[i'], by omega, hat0 (i' + 1) _ ?_⟩
    simp [List.getElem?_append_left hi', hi']
  · exact hat0 0 _ rfl
  · refine hat0 _ _ ?_
    rw [hlen]
    simp

end Go.Proofs.Yteibbknpcgcjjab
