/-
  Plain: Length of a way that is unpacked is the weight of its edge.
-/
import Derived.Test.YtokaechbmnbbiabGreatUnYP
import Derived.Test.YtokaechbmnbbiabGreatPack13
set_option linter.unusedVariables false
set_option linter.unusedSimpArgs false
namespace Go.Proofs.YtokaechbmnbbiabGreat

theorem getLastD_take : ∀ (l : List Int) (a : Int) (k : Nat), k ≤ l.length → (l.take k).getLastD a = (a :: l).getD k 0
  | l, a, 0, _ => by simp
  | [], a, k + 1, h => by simp at h
  | b :: l, a, k + 1, h => by
    have ih := getLastD_take l b k (by simpa using h)
    have : (b :: l.take k).getLastD a = (l.take k).getLastD b := by cases l.take k <;> rfl
    rw [List.take_succ_cons, this, ih]
    simp [List.getD_eq_getElem?_getD]
theorem Net.sum_nonneg {x : Net} (h : ∀ a b, 0 ≤ x.lw a b) : ∀ (l : List Int) (a : Int), 0 ≤ x.sum a l
  | [], a => by simp [Net.sum]
  | b :: l, a => by
    have h1 := h a b
    have h2 := Net.sum_nonneg h l b
    simp only [Net.sum]
    omega
theorem ps_sum {x : Net} {n : Nat} {F T G : Nat → Int} (hx : ∀ a b, x.lw a b = lastW F T G a b n) (h0 : ∀ a b, 0 ≤ x.lw a b) {l : List Int} {a : Int} (hf : x.sum a l < 1000000000000) : ∀ k, k ≤ l.length → ps n F T G (fun j => (a :: l).getD j 0) k = x.sum a (l.take k)
  | 0, _ => by simp [ps, Net.sum]
  | k + 1, h => by
    have ih := ps_sum hx h0 hf k (by omega)
    have hk : k < l.length := by omega
    have ht : l.take (k + 1) = l.take k ++ [l[k]] := by rw [List.take_append_getElem]
    have hs : x.sum a l = x.sum a (l.take (k + 1)) + x.sum ((l.take (k + 1)).getLastD a) (l.drop (k + 1)) := by
      rw [← x.sum_app, List.take_append_drop]
    have hn := Net.sum_nonneg h0 (l.drop (k + 1)) ((l.take (k + 1)).getLastD a)
    have e1 : x.sum a (l.take (k + 1)) = x.sum a (l.take k) + x.lw ((a :: l).getD k 0) l[k] := by
      rw [ht, x.sum_app, getLastD_take l a k (by omega)]
      simp [Net.sum]
    have e2 : (a :: l).getD (k + 1) 0 = l[k] := by simp [List.getD_eq_getElem?_getD, hk]
    unfold ps
    rw [ih, e1]
    show min 1000000000000 (x.sum a (l.take k) + lastW F T G ((a :: l).getD k 0) ((a :: l).getD (k + 1) 0) n) = _
    rw [e2, ← hx]
    omega
theorem allIn_of {p : Int} {P : Nat → Int} : ∀ m, (∀ k, k < m → inB (P k) 0 (p - 1) = true) → allIn p P m = true
  | 0, _ => rfl
  | m + 1, h => by
    unfold allIn
    simp only [Bool.and_eq_true]
    exact ⟨allIn_of m (fun k hk => h k (by omega)), h m (by omega)⟩

end Go.Proofs.YtokaechbmnbbiabGreat
