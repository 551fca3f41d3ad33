/-
  Plain: the ranks of a chain, two by two, are the ends of its edges; a way grows by a step's.
-/
import Derived.Test.YtokaechbmnbbiabGreatRtSP
import Derived.Test.YtokaechbmnbbiabGreatRtQP
set_option linter.unusedVariables false
set_option linter.unusedSimpArgs false
namespace Go.Proofs.YtokaechbmnbbiabGreat

section
variable {k m : Nat} {L H W : Nat → Int} {s : Nat} {D : Nat → Int}
theorem chE_link (C : Clb k m L H W s D) : ∀ f q j, j < (chE D W L H m f q).length → (H ((chE D W L H m f q).getD j 0)).toNat = (if j = 0 then q else (L ((chE D W L H m f q).getD (j - 1) 0)).toNat) ∧ (chE D W L H m f q).getD j 0 < m
  | 0, q, j, h => by simp [chE] at h
  | f + 1, q, j, h => by
    cases hl : lstE D W L H m q with
    | none => rw [chE_none hl] at h; simp at h
    | some i =>
      have S := C.step hl
      rw [chE_some hl] at h ⊢
      match j with
      | 0 => simp; exact ⟨S.2.1, S.1⟩
      | j + 1 =>
        simp only [List.length_cons] at h
        have := chE_link C f (L i).toNat j (by omega)
        simp only [List.getD_cons_succ, Nat.add_sub_cancel, Nat.add_one_ne_zero, if_false]
        refine ⟨?_, this.2⟩
        rw [this.1]
        match j with
        | 0 => simp
        | j + 1 => simp
theorem chR_len (D W L H : Nat → Int) (m q : Nat) : (chR D W L H m q).length = (chE D W L H m q q).length + 1 := by simp [chR]
theorem chR_pair (C : Clb k m L H W s D) {q i : Nat} (h1 : 1 ≤ i) (h2 : i ≤ (chE D W L H m q q).length) :
    (chR D W L H m q)[i - 1]? = some ((((L ((chE D W L H m q q).getD ((chE D W L H m q q).length - i) 0)).toNat : Nat) : Int)) ∧ (chR D W L H m q)[i]? = some ((((H ((chE D W L H m q q).getD ((chE D W L H m q q).length - i) 0)).toNat : Nat) : Int)) ∧ (chE D W L H m q q).getD ((chE D W L H m q q).length - i) 0 < m := by
  have hl := chE_link C q q
  generalize hc : chE D W L H m q q = c at hl h2 ⊢
  have hR : chR D W L H m q = c.reverse.map (fun i => L i) ++ [(q : Int)] := by unfold chR; rw [hc]
  rw [hR]
  have hat : ∀ t, t < c.length → (c.reverse.map (fun i => L i) ++ [(q : Int)])[t]? = some (L (c.getD (c.length - 1 - t) 0)) := fun t ht => by
    rw [List.getElem?_append_left (by simpa using ht), List.getElem?_map, List.getElem?_reverse ht, List.getElem?_eq_getElem (by omega)]
    simp [List.getD_eq_getElem?_getD, List.getElem?_eq_getElem (show c.length - 1 - t < c.length by omega)]
  have hend : (c.reverse.map (fun i => L i) ++ [(q : Int)])[c.length]? = some (q : Int) := by
    rw [List.getElem?_append_right (by simp)]
    simp
  have hn := hl (c.length - i) (by omega)
  have hE := C.eds _ hn.2
  refine ⟨?_, ?_, hn.2⟩
  · rw [hat (i - 1) (by omega)]
    have : c.length - 1 - (i - 1) = c.length - i := by omega
    rw [this]
    congr 1
    omega
  · by_cases e : i = c.length
    · subst e
      rw [hend, hn.1, if_pos (by omega)]
    · rw [hat i (by omega), hn.1, if_neg (by omega)]
      have h3 : c.length - 1 - i = c.length - i - 1 := by omega
      have h4 := hl (c.length - i - 1) (by omega)
      have h5 := C.eds _ h4.2
      rw [h3]
      congr 1
      omega
end
theorem rest_app (x : Net) : ∀ l l', x.rest (l ++ l') = x.rest l ++ x.rest l'
  | [], l' => by simp [Net.rest]
  | s :: l, l' => by simp [Net.rest, rest_app x l l']
theorem rest_take (x : Net) (l : List (Nat × Nat × Bool)) {i : Nat} {s : Nat × Nat × Bool} (h : l[i]? = some s) : x.rest (l.take (i + 1)) = x.rest (l.take i) ++ x.wy s.1 s.2.1 s.2.2 := by
  rw [List.take_add_one, h, rest_app]
  simp [Net.rest]
def upS (L H : Nat → Int) (c : List Nat) : List (Nat × Nat × Bool) := c.reverse.map fun e => rkS L H (e, true)
def dnS (L H : Nat → Int) (c : List Nat) : List (Nat × Nat × Bool) := c.map fun e => rkS L H (e, false)
theorem upS_at (L H : Nat → Int) (c : List Nat) {i : Nat} (h1 : 1 ≤ i) (h2 : i ≤ c.length) : (upS L H c)[i - 1]? = some (rkS L H (c.getD (c.length - i) 0, true)) := by
  unfold upS
  rw [List.getElem?_map, List.getElem?_reverse (by omega)]
  have : c.length - 1 - (i - 1) = c.length - i := by omega
  rw [this, List.getElem?_eq_getElem (by omega)]
  simp [List.getD_eq_getElem?_getD, List.getElem?_eq_getElem (show c.length - i < c.length by omega)]
theorem dnS_at (L H : Nat → Int) (c : List Nat) {i : Nat} (h : i < c.length) : (dnS L H c)[i]? = some (rkS L H (c.getD i 0, false)) := by
  unfold dnS
  rw [List.getElem?_map, List.getElem?_eq_getElem h]
  simp [List.getD_eq_getElem?_getD, List.getElem?_eq_getElem h]
theorem rtSt_rev (L H U V : Nat → Int) (m ra rb top : Nat) : (rtSt L H U V m ra rb top).reverse.map (rkS L H) = upS L H (chE (cl L H U ra m) U L H m top top) ++ dnS L H (chE (cl L H V rb m) V L H m top top) := by
  unfold rtSt upS dnS
  simp [List.map_reverse]
  rfl

end Go.Proofs.YtokaechbmnbbiabGreat
