/-
  Plain: the net of a right map and order is right; a way that is unpacked has no more places than ranks below it and two.
-/
import Derived.Test.YtokaechbmnbbiabGreatUnVP
import Derived.Test.YtokaechbmnbbiabGreatUnXP
set_option linter.unusedVariables false
set_option linter.unusedSimpArgs false
namespace Go.Proofs.YtokaechbmnbbiabGreat

theorem lastW_one {F T G : Nat → Int} {a b : Int} : ∀ n, (∀ t, t < n → 1 ≤ G t ∧ G t ≤ 1000000) → 1 ≤ lastW F T G a b n
  | 0, _ => by simp [lastW]
  | n + 1, h => by
    unfold lastW
    split
    · exact (h n (by omega)).1
    · exact lastW_one n (fun t ht => h t (by omega))
theorem Net.wy_ranks (x : Net) : ∀ (lo hi : Nat) (up : Bool), ∃ l : List Nat, (∀ r ∈ l, r < lo) ∧ x.wy lo hi up = (l ++ [toR lo hi up]).map x.O := by
  intro lo
  induction lo using Nat.strongRecOn with
  | ind lo ih =>
    intro hi up
    cases h : x.half lo hi up with
    | none => exact ⟨[], by simp, by rw [Net.wy_none h]; rfl⟩
    | some w =>
      have hw := x.half_lt h
      obtain ⟨l1, a1, e1⟩ := ih w hw (frR lo hi up) false
      obtain ⟨l2, a2, e2⟩ := ih w hw (toR lo hi up) true
      refine ⟨l1 ++ w :: l2, fun r hr => ?_, ?_⟩
      · rcases List.mem_append.1 hr with q | q
        · have := a1 r q; omega
        · rcases List.mem_cons.1 q with q | q
          · omega
          · have := a2 r q; omega
      · rw [Net.wy_some h, e1, e2]
        simp [toR]
theorem Net.sum_ranks (x : Net) : ∀ (l : List Nat) (a : Nat), x.sum (x.O a) (l.map x.O) = x.sr a l
  | [], a => rfl
  | b :: l, a => by
    simp only [List.map_cons, Net.sum, Net.sr, Net.sum_ranks x l b]
end Go.Proofs.YtokaechbmnbbiabGreat
