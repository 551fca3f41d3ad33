/-
  Reweigh by plain functions: which weights come out, and that the document's Reweigh answers just that.
-/
import Derived.Test.YthcgibpiogmmdaaCopy2
set_option linter.unusedVariables false
set_option linter.unusedSimpArgs false
namespace Go.Proofs.Ythcgibpiogmmdaa
open Go.RowKit Go.Maps

def hit (F T : Nat → Int) (a b : Int) : Nat → Bool
  | 0 => false
  | k + 1 => hit F T a b k || (F k == a && T k == b)
def put (F T H : Nat → Int) (a b c : Int) (i : Nat) : Int := if F i = a ∧ T i = b then c else H i
def part (F T H : Nat → Int) (a b c : Int) (k i : Nat) : Int := if i < k ∧ F i = a ∧ T i = b then c else H i
def rw' (F T G A B C : Nat → Int) (n : Nat) : Nat → Option (Nat → Int)
  | 0 => some G
  | i + 1 => match rw' F T G A B C n i with
    | none => none
    | some H => if hit F T (A i) (B i) n && inB (C i) 1 1000000 then some (put F T H (A i) (B i) (C i)) else none
def resOf (p : Int) (n : Nat) (F T G : Nat → Int) (m : Nat) (A B C : Nat → Int) : Option (Nat → Int) := if graphB p n F T G then rw' F T G A B C n m else none
def IsRes (r : Option (Nat → Int)) (p : Int) (n : Nat) (p' : Int) (n' : Nat) (H : Nat → Int) (ok : Bool) : Prop :=
  (r = some H ∧ p' = p ∧ n' = n ∧ ok = true) ∨ (r = none ∧ p' = 0 ∧ n' = 0 ∧ ok = false)

theorem rw'_none {F T G A B C : Nat → Int} {n k : Nat} (h : rw' F T G A B C n k = none) : ∀ m, k ≤ m → rw' F T G A B C n m = none
  | 0, hk => by
    have : k = 0 := by omega
    subst this; exact h
  | m + 1, hk => by
    by_cases e : k = m + 1
    · subst e; exact h
    · rw [rw', rw'_none h m (by omega)]
theorem rw'_yes {F T G A B C H : Nat → Int} {n i : Nat} (h : rw' F T G A B C n i = some H) (h1 : hit F T (A i) (B i) n = true) (h2 : inB (C i) 1 1000000 = true) : rw' F T G A B C n (i + 1) = some (put F T H (A i) (B i) (C i)) := by
  simp [rw', h, h1, h2]
theorem rw'_no {F T G A B C H : Nat → Int} {n i : Nat} (h : rw' F T G A B C n i = some H) (hf : hit F T (A i) (B i) n = false ∨ inB (C i) 1 1000000 = false) : rw' F T G A B C n (i + 1) = none := by
  rcases hf with hf | hf <;> simp [rw', h, hf]
theorem part_zero {F T H : Nat → Int} {a b c : Int} (i : Nat) : part F T H a b c 0 i = H i := by simp [part]
theorem part_all {F T H : Nat → Int} {a b c : Int} {n i : Nat} (hi : i < n) : part F T H a b c n i = put F T H a b c i := by simp [part, put, hi]
theorem ar_congr {F T G G' : Nat → Int} {n : Nat} (h : ∀ i, i < n → G i = G' i) : ∀ j, j < n * 3 → ar F T G j = ar F T G' j := fun j hj => by
  unfold ar
  split
  · rfl
  · split
    · rfl
    · exact h _ (by omega)
theorem Has.weights {w : World} {b n : Nat} {F T G G' : Nat → Int} (h : Has w b n (ar F T G)) (e : ∀ i, i < n → G i = G' i) : Has w b n (ar F T G') := h.congr (ar_congr e)
theorem ar_set (F T H : Nat → Int) (k : Nat) (c : Int) (j : Nat) : (if j = k * 3 + 2 then c else ar F T H j) = ar F T (fun i => if i = k then c else H i) j := by
  unfold ar
  by_cases h0 : j % 3 = 0
  · rw [if_pos h0, if_pos h0, if_neg (by omega)]
  · by_cases h1 : j % 3 = 1
    · rw [if_neg h0, if_neg h0, if_pos h1, if_pos h1, if_neg (by omega)]
    · rw [if_neg h0, if_neg h0, if_neg h1, if_neg h1]
      by_cases e : j = k * 3 + 2
      · have : j / 3 = k := by omega
        simp [e, this] <;> omega
      · have : ¬ j / 3 = k := by omega
        simp [e, this]
theorem Has.weigh {w : World} {b n : Nat} {F T H : Nat → Int} (h : Has w b n (ar F T H)) (k : Nat) (c : Int) : Has (w.setCell ⟨b, k * 3 + 2, none⟩ (.int .i64 c)) b n (ar F T (fun i => if i = k then c else H i)) :=
  (h.set (k * 3 + 2) c).congr (fun j _ => ar_set F T H k c j)
theorem part_hit {F T H : Nat → Int} {a b c : Int} {k : Nat} (hF : F k = a) (hT : T k = b) (i : Nat) : (if i = k then c else part F T H a b c k i) = part F T H a b c (k + 1) i := by
  unfold part
  by_cases e : i = k
  · subst e; rw [if_pos rfl, if_pos ⟨by omega, hF, hT⟩]
  · rw [if_neg e]
    by_cases h : i < k ∧ F i = a ∧ T i = b
    · rw [if_pos h, if_pos ⟨by omega, h.2⟩]
    · rw [if_neg h, if_neg (fun h' => h ⟨by omega, h'.2⟩)]
theorem part_miss {F T H : Nat → Int} {a b c : Int} {k : Nat} (hm : ¬ (F k = a ∧ T k = b)) (i : Nat) : part F T H a b c k i = part F T H a b c (k + 1) i := by
  unfold part
  by_cases h : i < k ∧ F i = a ∧ T i = b
  · rw [if_pos h, if_pos ⟨by omega, h.2⟩]
  · rw [if_neg h, if_neg (fun h' => by
      by_cases e : i = k
      · subst e; exact hm h'.2
      · exact h ⟨by omega, h'.2⟩)]

end Go.Proofs.Ythcgibpiogmmdaa
