/-
  append of a list that is told by its own cells alone.
-/
import Derived.Test.YticckgmkhgnmfaaDoorRegs
set_option linter.unusedVariables false
set_option linter.unusedSimpArgs false
namespace Go.Proofs.YticckgmkhgnmfaaDoor
open Go Go.RowKit

theorem lf_app (a b : List Value) (j : Nat) : lf (a ++ b) j = if j < a.length then lf a j else lf b (j - a.length) := by
  unfold lf
  by_cases h : j < a.length
  · simp [h, List.getD_eq_getElem?_getD, List.getElem?_append_left h]
  · simp [h, List.getD_eq_getElem?_getD, List.getElem?_append_right (Nat.le_of_not_lt h)]
/-- append(own, list...), in a plain region; the list told by its own cells alone. -/
theorem wpList_appR {P : Program} {ops : Array Oper} {o : Oper} {rest : List Oper} {a : Act} {w : World} {Q : Exit → Act → World → Prop} (hgd : o.guard = none) (s x : Operand) {t e : TypeId} {size bytes : Nat} (E : ElI P t e size bytes) (ho : o.op = .call { callee := .builtin .append, args := #[s, x], argTypes := #[t, t] }) (d : Nat) (hd : o.dst = some d) (base : Nat) (f : Nat → Value) (ao : Option Addr) (n cap : Nat) (hs : a.eval s = .slice ao n cap) (h0 : GOwn w base e size ao n cap f) (so : Option Addr) (m c : Nat) (g : Nat → Value) (hx : a.eval x = .slice so m c) (hr : GRow w so (m * size) g) (h1 : ∀ j, j < m * size → (g j).oneCell' = true) (hn : n + m ≤ 100000000) (hbase : base ≤ w.heap.size)
    (h : ∀ ao' cap' w', GOwn w' base e size ao' (n + m) cap' (fun j => if j < n * size then f j else g (j - n * size)) → w.grownBy w' (Value.slice ao n cap).ownBlock → wpList P ops Q rest (a.put (some d) (.slice ao' (n + m) cap')) w') : wpList P ops Q (o :: rest) a w := by
  refine wpList_app hgd s x E ho d hd base f ao n cap hs h0 so m c (fun j => if j < m * size then g j else .bool false) hx (fun hm => ?_) (fun j => ?_) hn hbase (fun ao' cap' w' h2 h3 _ => h ao' cap' w' (h2.congr (fun j hj => ?_)) h3)
  · obtain ⟨b, o', e', hc⟩ := hr hm
    exact ⟨b, o', e', fun j hj => by rw [hc j hj]; simp only [if_pos hj]⟩
  · split
    · next q => exact h1 j q
    · rfl
  · by_cases q : j < n * size
    · rw [if_pos q, if_pos q]
    · rw [if_neg q, if_neg q, if_pos (by rw [Nat.add_mul] at hj; omega)]
theorem vhas_grow {w : World} {b n : Nat} {t : TypeId} {f : Nat → Value} (h : VHas w b t n f) : GRow w (some ⟨b, 0, none⟩) n f := fun _ => ⟨b, 0, rfl, fun j hj => by rw [Nat.zero_add]; exact h.cell hj⟩

end Go.Proofs.YticckgmkhgnmfaaDoor
