/-
  Servers in a list.
-/
import Derived.Test.YticckgmkhgnmfaaDoorNdA
import Derived.Test.YticckgmkhgnmfaaDoorAppR
set_option linter.unusedVariables false
set_option linter.unusedSimpArgs false
namespace Go.Proofs.YticckgmkhgnmfaaDoor
open Go Go.RowKit
attribute [local go_sem ↓] Go.wp_at_zero Go.wp_at_succ

/-- A server, and where its lists lie. -/
structure Nq where
  n : Nd
  s : NdS
def nq0 : Nq := ⟨nd0, ns0⟩
def clc : List Nq → List Value
  | [] => []
  | q :: r => ndL q.n q.s ++ clc r
theorem clc_len : ∀ l : List Nq, (clc l).length = l.length * 10
  | [] => rfl
  | q :: r => by simp [clc, clc_len r]; omega
theorem clc_app : ∀ a b : List Nq, clc (a ++ b) = clc a ++ clc b
  | [], b => rfl
  | q :: a, b => by simp [clc, clc_app a b]
theorem clc_at : ∀ {l : List Nq} {k j : Nat} {q : Nq}, l[k]? = some q → j < 10 → (clc l)[k * 10 + j]? = (ndL q.n q.s)[j]?
  | [], k, j, q, h, _ => by simp at h
  | p :: r, 0, j, q, h, hj => by
    obtain rfl : p = q := by simpa using h
    simp only [clc, Nat.zero_mul, Nat.zero_add]
    rw [List.getElem?_append_left (by simpa using hj)]
  | p :: r, k + 1, j, q, h, hj => by
    have := clc_at (l := r) (k := k) (j := j) (q := q) (by simpa using h) hj
    simp only [clc]
    rw [List.getElem?_append_right (by simp; omega), ← this]
    congr 1
    simp
    omega
theorem ndL_one (q : Nq) (j : Nat) (h : j < 10) : (lf (ndL q.n q.s) j).oneCell' = true := by
  have : j = 0 ∨ j = 1 ∨ j = 2 ∨ j = 3 ∨ j = 4 ∨ j = 5 ∨ j = 6 ∨ j = 7 ∨ j = 8 ∨ j = 9 := by omega
  rcases this with rfl | rfl | rfl | rfl | rfl | rfl | rfl | rfl | rfl | rfl <;> rfl
/-- The ten cells of the k-th. -/
theorem clc_row {w : World} {l : List Nq} {b o k : Nat} {q : Nq} {t : TypeId} (h : LRow w t (some ⟨b, o, none⟩) (clc l)) (hk : l[k]? = some q) (j : Nat) (hj : j < 10) : w.cell? ⟨b, o + k * 10 + j, none⟩ = some (lf (ndL q.n q.s) j) := by
  have hlt : k < l.length := by
    rcases Nat.lt_or_ge k l.length with z | z
    · exact z
    · rw [List.getElem?_eq_none z] at hk; cases hk
  obtain ⟨b', o', e, _, hc⟩ := h (fun z => by have := clc_len l; rw [z] at this; simp at this; omega)
  cases e
  have e1 := clc_at hk hj
  have e2 : (ndL q.n q.s)[j]? = some (lf (ndL q.n q.s) j) := by
    have hj2 : j < (ndL q.n q.s).length := hj
    simp only [lf, List.getD_eq_getElem?_getD]
    rw [List.getElem?_eq_getElem hj2]
    rfl
  rw [e2] at e1
  have := hc _ _ e1
  rw [← Nat.add_assoc] at this
  exact this
theorem Tryd.infoNode : (Tryd.prog.info? 51).map (fun i => (i.zero, i.size, i.bytes)) = some (some (ndV nd0 ns0), 10, 144) := by kernel_rfl
theorem Tryd.elQ : ElI Tryd.prog 22 51 10 144 := ⟨Tryd.underlying22, by
  obtain ⟨i0, hi0, hz0, hz1, hz2⟩ := info_parts Tryd.infoNode
  exact ⟨i0, _, hi0, hz0, hz1, hz2, rfl⟩, by omega, by omega⟩
/-- A new server, new servers. -/
def newN (i p : Int) : Nd := ⟨i, p, 0, -1, [], 1, 0, [], [], []⟩
def newL (p : Int) : Nat → List Nq
  | 0 => []
  | k + 1 => newL p k ++ [⟨newN k p, ns0⟩]
theorem newL_len (p : Int) : ∀ k, (newL p k).length = k
  | 0 => rfl
  | k + 1 => by simp [newL, newL_len p k]
theorem newL_at (p : Int) : ∀ {k i : Nat}, i < k → (newL p k)[i]? = some ⟨newN i p, ns0⟩
  | 0, i, h => by omega
  | k + 1, i, h => by
    simp only [newL]
    by_cases e : i = k
    · subst e
      rw [List.getElem?_append_right (by rw [newL_len]; omega), newL_len]
      simp
    · rw [List.getElem?_append_left (by rw [newL_len]; omega)]
      exact newL_at p (by omega)
/-- One more server in a list of one's own. -/
theorem clc_more {w : World} {base : Nat} {ao : Option Addr} {cap : Nat} {l : List Nq} {q : Nq} {k : Nat} (hl : l.length = k) (ho : GOwn w base 51 10 ao (k + 1) cap (fun j => if j < k * 10 then lf (clc l) j else lf (ndL q.n q.s) (j - k * 10))) : GOwn w base 51 10 ao (k + 1) cap (lf (clc (l ++ [q]))) :=
  GOwn.congr ho (fun j hj => by
    have e2 : clc (l ++ [q]) = clc l ++ ndL q.n q.s := by rw [clc_app]; simp [clc]
    rw [e2, lf_app, clc_len, hl])
theorem rb_row {w W W' : World} {row : Option Nat} (h : RB w W) (hg : W.grownBy W' row) (hx : ∀ x, row = some x → w.heap.size ≤ x) : RB w W' := below_row h hg hx
/-- Are these servers right, from number i on? -/
def okFrom (B : Nq → Bool) (p : Int) : Int → List Nq → Bool
  | _, [] => true
  | i, q :: r => decide (q.n.id = i) && (decide (q.n.peers = p) && (B q && okFrom B p (i + 1) r))
def cluB (B : Nq → Bool) (l : List Nq) (net : Nat) : Bool := decide (1 ≤ l.length ∧ l.length ≤ 5 ∧ net ≤ 200) && okFrom B l.length 0 l

end Go.Proofs.YticckgmkhgnmfaaDoor
