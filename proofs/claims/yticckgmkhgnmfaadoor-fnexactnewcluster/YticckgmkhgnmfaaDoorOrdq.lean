/-
  For region_put: what the operations that may come behind the store owe, one by one.
-/
import Derived.Test.YticckgmkhgnmfaaDoorOrdp
import Derived.Test.YticckgmkhgnmfaaDoorRegs
set_option linter.unusedVariables false
set_option linter.unusedSimpArgs false
namespace Go.Proofs.YticckgmkhgnmfaaDoor
open Go

section
variable {P : Program} {ops : Array Oper}
/-- The value of an operation that is kept. -/
theorem EvOk.kept {a0 : Act} {o : Oper} {v : Nat → Value} {ev : Operand → Value} {Pr : Nat → Value → World → Prop} {w : World} {ks : List Nat} (E : EvOk ops a0 o v ev) (pr : ∀ j, j ∈ ks → waitsB o j = true → Pr j (v j) w) (j d : Nat)
    (h1 : (ops[j]?).bind (·.dst) = some d := by rfl) (h2 : waitsB o j = true := by kernel_rfl) (h3 : Nat.blt d a0.tmps.size = true := by kernel_rfl) (h4 : ks.contains j = true := by kernel_rfl) : Pr j (ev (.tmp d)) w := by
  rw [E.at_ j d h1 h2 (Nat.le_of_ble_eq_true h3)]
  exact pr j (by simpa using h4) h2
/-- An operation that reads, ahead of the store or behind it. -/
theorem LateOk.get {a0 : Act} {w0 : World} {Post : World → Prop} {Pr : Nat → Value → World → Prop} {ks : List Nat} {i : Nat} {o : Oper} (u : Value) (hp : ∀ w, Pr i u w)
    (h : ∀ (ev : Operand → Value) (w : World) (v : Nat → Value), (RB w0 w ∨ Post w) → EvOk ops a0 o v ev → (∀ j, j ∈ ks → waitsB o j = true → Pr j (v j) w) → (execOp ev o).run P w = .ok (.value u) w) : LateOk P ops a0 w0 Post Pr ks i o :=
  fun ev w v hR E pr => ⟨u, w, h ev w v hR E pr, RB.refl _, hp w⟩
/-- Of all that come late. -/
def allLate (P : Program) (ops : Array Oper) (a0 : Act) (w0 : World) (Post : World → Prop) (Pr : Nat → Value → World → Prop) (ks : List Nat) (kx : Nat) (early : List Nat) : Nat → List Oper → Prop
  | _, [] => True
  | i, o :: r => ((i == kx || early.contains i) = true ∨ LateOk P ops a0 w0 Post Pr ks i o) ∧ allLate P ops a0 w0 Post Pr ks kx early (i + 1) r
theorem allLate_at {a0 : Act} {w0 : World} {Post : World → Prop} {Pr : Nat → Value → World → Prop} {ks : List Nat} {kx : Nat} {early : List Nat} : ∀ (l : List Oper) (k : Nat), allLate P ops a0 w0 Post Pr ks kx early k l → ∀ i o, l[i]? = some o → k + i ≠ kx → k + i ∉ early → LateOk P ops a0 w0 Post Pr ks (k + i) o
  | [], _, _, i, o, h, _, _ => by simp at h
  | p :: r, k, h, 0, o, ho, h1, h2 => by
    obtain ⟨h, _⟩ := h
    obtain rfl : p = o := by simpa using ho
    rcases h with h | h
    · simp only [Bool.or_eq_true, beq_iff_eq, List.contains_iff_mem] at h
      rcases h with h | h
      · exact absurd h h1
      · exact absurd h h2
    · exact h
  | p :: r, k, h, i + 1, o, ho, h1, h2 => by
    have e : k + (i + 1) = k + 1 + i := by omega
    rw [e] at h1 h2 ⊢
    exact allLate_at r (k + 1) h.2 i o (by simpa using ho) h1 h2
/-- region_put's premise on them. -/
theorem lates {a0 : Act} {w0 : World} {Post : World → Prop} {Pr : Nat → Value → World → Prop} {ks : List Nat} {kx : Nat} {early : List Nat} (h : allLate P ops a0 w0 Post Pr ks kx early 0 ops.toList) : ∀ i, i < ops.size → i ≠ kx → i ∉ early → ∀ o, ops[i]? = some o → LateOk P ops a0 w0 Post Pr ks i o := fun i _ h1 h2 o ho => by
  have := allLate_at ops.toList 0 h i o (by simpa using ho) (by simpa using h1) (by simpa using h2)
  simpa using this
theorem late_cons {a0 : Act} {w0 : World} {Post : World → Prop} {Pr : Nat → Value → World → Prop} {ks : List Nat} {kx : Nat} {early : List Nat} {i : Nat} {o : Oper} {r : List Oper} (h : LateOk P ops a0 w0 Post Pr ks i o) (hr : allLate P ops a0 w0 Post Pr ks kx early (i + 1) r) : allLate P ops a0 w0 Post Pr ks kx early i (o :: r) := ⟨.inr h, hr⟩
theorem late_skip {a0 : Act} {w0 : World} {Post : World → Prop} {Pr : Nat → Value → World → Prop} {ks : List Nat} {kx : Nat} {early : List Nat} {i : Nat} {o : Oper} {r : List Oper} (hs : (i == kx || early.contains i) = true) (hr : allLate P ops a0 w0 Post Pr ks kx early (i + 1) r) : allLate P ops a0 w0 Post Pr ks kx early i (o :: r) := ⟨.inl hs, hr⟩
end

end Go.Proofs.YticckgmkhgnmfaaDoor
