/-
  Guarded operations of a region that draws its order; loads of boxes; each by one term.
-/
import Derived.Test.YticckgmkhgnmfaaDoorRegs
import Derived.Test.YticckgmkhgnmfaaDoorOrdi
set_option linter.unusedVariables false
set_option linter.unusedSimpArgs false
namespace Go.Proofs.YticckgmkhgnmfaaDoor
open Go Go.RowKit

section
variable {P : Program} {ops : Array Oper}
/-- A value that is there where the guard says so. -/
abbrev gv (c : Bool) (v : Value) : Value := bif c then v else undef
theorem wanted_gd {o : Oper} {a : Act} {j d : Nat} {b Cj bj : Bool} (hg : o.guard = some (j, b)) (hd : (ops[j]?).bind (·.dst) = some d) (he : a.eval (.tmp d) = gv Cj (.bool bj)) : Region.wanted o (yielded ops a.tmps) = (Cj && (bj == b)) := by
  unfold Region.wanted yielded
  rw [hg]
  simp only [hd]
  simp only [Act.eval, Array.getD_eq_getD_getElem?] at he
  simp only [Option.bind_some]
  cases h : a.tmps[d]? with
  | none =>
    rw [h] at he
    cases Cj
    · simp
    · simp [gv, undef] at he
  | some u =>
    rw [h] at he
    simp only [Option.getD_some] at he
    subst he
    cases Cj
    · simp [gv, undef]
    · simp [gv]
/-- A guarded operation that reads. -/
theorem OpOk.gd {a0 : Act} {w0 : World} {R : World → World → Prop} {Pr : Nat → Value → World → Prop} {i : Nat} {o : Oper} (hR : ∀ w, R w w) (j d : Nat) (b Cj bj : Bool) (hPj : ∀ v w, Pr j v w → v = gv Cj (.bool bj)) (C : Bool) (hC : C = (Cj && (bj == b))) (u : Value) (hp : ∀ w, Pr i (gv C u) w)
    (h : ∀ (ev : Operand → Value) (w : World) (v : Nat → Value), R w0 w → EvOk ops a0 o v ev → (∀ j, j < ops.size → waitsB o j = true → Pr j (v j) w) → C = true → (execOp ev o).run P w = .ok (.value u) w)
    (hg : o.guard = some (j, b) := by rfl) (h1 : (ops[j]?).bind (·.dst) = some d := by rfl) (h2 : waitsB o j = true := by kernel_rfl) (h3 : Nat.blt d a0.tmps.size = true := by kernel_rfl) (h4 : Nat.blt j ops.size = true := by kernel_rfl) : OpOk P ops a0 w0 R Pr i o := by
  intro a w v Q hRw hd hpr hb
  have E : EvOk ops a0 o v a.eval := ⟨fun j d hj hw hlt => by
    cases ho : ops[j]? with
    | none => rw [ho] at hj; cases hj
    | some p =>
      rw [ho] at hj
      exact hd j p d ho hj hlt (waitsB_for hw), fun d hn => hb d fun j p hj => noDstB_spec hn j p hj, fun _ => rfl, fun _ => rfl, fun _ => rfl⟩
  have hpr' : ∀ j, j < ops.size → waitsB o j = true → Pr j (v j) w := fun j hj hw => hpr j hj (waitsB_for hw)
  have he := hPj _ _ (E.get hpr' j d h1 h2 h3 h4)
  rw [wanted_gd hg h1 he, ← hC]
  cases hc : C with
  | true =>
    rw [if_pos rfl]
    have hr := h a.eval w v hRw E hpr' hc
    unfold Oper.wp
    rw [hr]
    have := hp w
    rw [hc] at this
    exact ⟨u, rfl, hR w, this⟩
  | false =>
    rw [if_neg (by simp)]
    have := hp w
    rw [hc] at this
    exact this
/-- A guarded call. -/
theorem OpOk.gdCall {a0 : Act} {w0 : World} {R : World → World → Prop} {Pr : Nat → Value → World → Prop} {i : Nat} {o : Oper} (j d : Nat) (b Cj bj : Bool) (hPj : ∀ v w, Pr j v w → v = gv Cj (.bool bj)) (C : Bool) (hC : C = (Cj && (bj == b))) (u : Value) (hp : ∀ w, Pr i (gv C u) w)
    (h : ∀ (ev : Operand → Value) (w : World) (v : Nat → Value), R w0 w → EvOk ops a0 o v ev → (∀ j, j < ops.size → waitsB o j = true → Pr j (v j) w) → C = true → ∃ f args, (execOp ev o).run P w = .ok (.enter f args) w ∧ Calls P f args w fun e w' => e = .returned u ∧ R w w')
    (hg : o.guard = some (j, b) := by rfl) (h1 : (ops[j]?).bind (·.dst) = some d := by rfl) (h2 : waitsB o j = true := by kernel_rfl) (h3 : Nat.blt d a0.tmps.size = true := by kernel_rfl) (h4 : Nat.blt j ops.size = true := by kernel_rfl) : OpOk P ops a0 w0 R Pr i o := by
  intro a w v Q hRw hd hpr hb
  have E : EvOk ops a0 o v a.eval := ⟨fun j d hj hw hlt => by
    cases ho : ops[j]? with
    | none => rw [ho] at hj; cases hj
    | some p =>
      rw [ho] at hj
      exact hd j p d ho hj hlt (waitsB_for hw), fun d hn => hb d fun j p hj => noDstB_spec hn j p hj, fun _ => rfl, fun _ => rfl, fun _ => rfl⟩
  have hpr' : ∀ j, j < ops.size → waitsB o j = true → Pr j (v j) w := fun j hj hw => hpr j hj (waitsB_for hw)
  have he := hPj _ _ (E.get hpr' j d h1 h2 h3 h4)
  rw [wanted_gd hg h1 he, ← hC]
  cases hc : C with
  | true =>
    rw [if_pos rfl]
    obtain ⟨f, args, hr, hcl⟩ := h a.eval w v hRw E hpr' hc
    unfold Oper.wp
    rw [hr]
    refine Calls.mono hcl ?_
    rintro e w' ⟨rfl, h9⟩
    have := hp w'
    rw [hc] at this
    exact ⟨u, rfl, h9, this⟩
  | false =>
    rw [if_neg (by simp)]
    have := hp w
    rw [hc] at this
    exact this
/-- A call whose answer is known. -/
theorem OpOk.ret {a0 : Act} {w0 : World} {R : World → World → Prop} {Pr : Nat → Value → World → Prop} {i : Nat} {o : Oper} (u : Value) (hp : ∀ w, Pr i u w)
    (h : ∀ (ev : Operand → Value) (w : World) (v : Nat → Value), R w0 w → EvOk ops a0 o v ev → (∀ j, j < ops.size → waitsB o j = true → Pr j (v j) w) → ∃ f args, (execOp ev o).run P w = .ok (.enter f args) w ∧ Calls P f args w fun e w' => e = .returned u ∧ R w w') (hg : o.guard = none := by rfl) : OpOk P ops a0 w0 R Pr i o :=
  OpOk.call hg fun ev w v hR E pr => by
    obtain ⟨f, args, hr, hc⟩ := h ev w v hR E pr
    exact ⟨f, args, hr, hc.mono fun e w' h => ⟨u, h.1, h.2, hp w'⟩⟩
end

end Go.Proofs.YticckgmkhgnmfaaDoor
