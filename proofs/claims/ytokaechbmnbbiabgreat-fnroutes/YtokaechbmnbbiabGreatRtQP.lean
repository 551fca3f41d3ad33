/-
  Plain: what Route answers.
-/
import Derived.Test.YtokaechbmnbbiabGreatPack14
import Derived.Test.YtokaechbmnbbiabGreatUnBP
import Derived.Test.YtokaechbmnbbiabGreatPack1
set_option linter.unusedVariables false
set_option linter.unusedSimpArgs false
namespace Go.Proofs.YtokaechbmnbbiabGreat

theorem mt_is {A B : Nat → Int} : ∀ k, mt A B k = (-1, 1000000000000) ∨ ∃ r, r < k ∧ mt A B k = ((r : Int), A r + B r) ∧ A r + B r < 1000000000000
  | 0 => .inl rfl
  | k + 1 => by
    unfold mt
    by_cases h : min 1000000000000 (A k + B k) < (mt A B k).2
    · rw [if_pos h]
      have := mt_le A B k
      refine .inr ⟨k, by omega, ?_, by omega⟩
      have e : min 1000000000000 (A k + B k) = A k + B k := by omega
      rw [e]
    · rw [if_neg h]
      rcases mt_is k with h1 | ⟨r, hr, h1⟩
      · exact .inl h1
      · exact .inr ⟨r, by omega, h1⟩
def rtSt (L H U V : Nat → Int) (m ra rb top : Nat) : List (Nat × Bool) := ((chE (cl L H V rb m) V L H m top top).map fun i => (i, false)).reverse ++ (chE (cl L H U ra m) U L H m top top).map fun i => (i, true)
def rtW (x : Net) (L H : Nat → Int) (a : Int) (st : List (Nat × Bool)) : List Int := a :: x.rest (st.reverse.map (rkS L H))
def rtC (p : Int) (n : Nat) (F T G : Nat → Int) (k : Nat) (P : Nat → Int) (a b : Int) : List Int × Int :=
  let l := lstF p n F T P
  let ra := (rk P (-1) k a.toNat).toNat
  let rb := (rk P (-1) k b.toNat).toNat
  let M := mt (cl (Lf l) (Hf l) (cusT p n F T G P).1 ra l.length) (cl (Lf l) (Hf l) (cusT p n F T G P).2 rb l.length) k
  if M.2 = 1000000000000 then ([], 1000000000000) else (rtW (cn p n F T G P) (Lf l) (Hf l) a (rtSt (Lf l) (Hf l) (cusT p n F T G P).1 (cusT p n F T G P).2 l.length ra rb M.1.toNat), M.2)
open Classical in
noncomputable def rtA (p : Int) (n : Nat) (F T G : Nat → Int) (k : Nat) (P : Nat → Int) (m : Nat) (L H : Nat → Int) (u : Nat) (U : Nat → Int) (v : Nat) (V : Nat → Int) (a b : Int) : List Int × Int :=
  if IsC p n F T G k P m L H u U v V ∧ RIn k a ∧ RIn k b then rtC p n F T G k P a b else ([], 1000000000000)
section
variable {k m : Nat} {L H U V : Nat → Int} {ra rb top : Nat}
theorem rtSt_len (CU : Clb k m L H U ra (cl L H U ra m)) (CV : Clb k m L H V rb (cl L H V rb m)) : (rtSt L H U V m ra rb top).length ≤ 2 * top := by
  have h1 := chE_len CU top top
  have h2 := chE_len CV top top
  simp [rtSt]
  omega
theorem rtSt_in (CU : Clb k m L H U ra (cl L H U ra m)) (CV : Clb k m L H V rb (cl L H V rb m)) : ∀ s ∈ rtSt L H U V m ra rb top, s.1 < m ∧ (if s.2 = true then U s.1 else V s.1) < 1000000000000 ∧ (H s.1).toNat ≤ top := fun s hs => by
  rcases List.mem_append.1 hs with h | h
  · rw [List.mem_reverse] at h
    obtain ⟨i, hi, rfl⟩ := List.mem_map.1 h
    exact chE_in CV top top i hi
  · obtain ⟨i, hi, rfl⟩ := List.mem_map.1 h
    exact chE_in CU top top i hi
theorem rest_len (x : Net) : ∀ (st : List (Nat × Nat × Bool)) (B : Nat), (∀ s ∈ st, s.1 ≤ B) → (x.rest st).length ≤ st.length * 2 ^ B
  | [], B, _ => by simp [Net.rest]
  | s :: st, B, h => by
    have h1 := rest_len x st B (fun s hs => h s (List.mem_cons_of_mem _ hs))
    have h2 := (x.wy_len s.1 s.2.1 s.2.2).2
    have h3 : 2 ^ s.1 ≤ 2 ^ B := Nat.pow_le_pow_right (by omega) (h s (by simp))
    simp only [Net.rest, List.length_append, List.length_cons, Nat.add_mul, Nat.one_mul]
    omega
theorem rtW_len (x : Net) (CU : Clb k m L H U ra (cl L H U ra m)) (CV : Clb k m L H V rb (cl L H V rb m)) (hE : ∀ i, i < m → 0 ≤ L i ∧ L i < H i ∧ H i < (k : Int)) (htop : top < 24) : (x.rest ((rtSt L H U V m ra rb top).reverse.map (rkS L H))).length ≤ 400000000 := by
  have h1 := rest_len x ((rtSt L H U V m ra rb top).reverse.map (rkS L H)) 22 (fun s hs => by
    obtain ⟨t, ht, rfl⟩ := List.mem_map.1 hs
    rw [List.mem_reverse] at ht
    have h2 := rtSt_in CU CV t ht
    have h3 := hE t.1 h2.1
    show (L t.1).toNat ≤ 22
    omega)
  have h2 := rtSt_len (top := top) CU CV
  rw [List.length_map, List.length_reverse] at h1
  have h3 : (rtSt L H U V m ra rb top).length * 2 ^ 22 ≤ 46 * 2 ^ 22 := Nat.mul_le_mul_right _ (by omega)
  have h4 : (46 * 2 ^ 22 : Nat) = 192937984 := by decide
  omega
end

end Go.Proofs.YtokaechbmnbbiabGreat
