/-
  Steps of a region that draws its order, of a frame that is a letter.
-/
import Derived.Test.YtmnohgcjdhokdahPack8
import Derived.Test.YtmnohgcjdhokdahLeafCP
set_option linter.unusedVariables false
set_option linter.unusedSimpArgs false
namespace Go.Proofs.Ytmnohgcjdhokdah
open Go.RowKit

theorem act_ext {a b : Act} (hd : a.defers = b.defers) (hs : a.tmps.size = b.tmps.size) (h : ∀ j, j < a.tmps.size → a.eval (.tmp j) = b.eval (.tmp j)) : a = b := by
  obtain ⟨x, d⟩ := a
  obtain ⟨y, e⟩ := b
  simp only at hd hs h
  subst hd
  congr 1
  refine Array.ext hs fun i h1 h2 => ?_
  have := h i h1
  simpa [Act.eval, Array.getD, h1, h2] using this
theorem put_same {a : Act} {i : Nat} {v : Value} (h : i < a.tmps.size) : (a.put (some i) v).eval (.tmp i) = v := by simp [Act.put, Act.eval, Array.getD, h]
theorem put_ne {a : Act} {i j : Nat} {v : Value} (h : j ≠ i) : (a.put (some i) v).eval (.tmp j) = a.eval (.tmp j) := by
  by_cases hj : j < a.tmps.size
  · simp [Act.put, Act.eval, Array.getD, hj, Array.getElem_setIfInBounds, Ne.symm h]
  · simp [Act.put, Act.eval, Array.getD, hj]
theorem put_size {a : Act} {i : Nat} {v : Value} : (a.put (some i) v).tmps.size = a.tmps.size := by simp [Act.put]
theorem wp_of_enter {P : Program} {o : Oper} {a : Act} {w : World} {K : Act → World → Prop} {Q : Exit → Act → World → Prop} {f : FuncId} {args : Array Value} {R : Ending → World → Prop} (h : (execOp a.eval o).run P w = .ok (.enter f args) w) (hc : Calls P f args w R) (hR : ∀ e w', R e w' → ∃ v, e = .returned v ∧ K (a.put o.dst v) w') : o.wp P a w K Q := by
  unfold Oper.wp
  rw [h]
  refine hc.mono ?_
  intro e w' hr
  obtain ⟨v, rfl, hk⟩ := hR e w' hr
  exact hk
section
variable {ev : Operand → Value} {d : Option Tmp} {t : TypeId} {pos : String} {aft : Array Edge} {w : World}
theorem run_loadG {x : Operand} {b : Nat} {v0 v1 : Value} (he : ev x = .pointer (some ⟨b, 0, none⟩)) (c0 : w.cell? ⟨b, 0, none⟩ = some v0) (c1 : w.cell? ⟨b, 1, none⟩ = some v1) : (execOp ev { dst := d, op := .load 42 x, type := t, pos := pos, after := aft, guard := none }).run Try.prog w = .ok (.value (.agg #[v0, v1])) w := by
  simp [go_sem, he, c0, c1]
theorem run_loadH {x : Operand} {b : Nat} {v0 v1 : Value} (he : ev x = .pointer (some ⟨b, 0, none⟩)) (c0 : w.cell? ⟨b, 0, none⟩ = some v0) (c1 : w.cell? ⟨b, 1, none⟩ = some v1) : (execOp ev { dst := d, op := .load 25 x, type := t, pos := pos, after := aft, guard := none }).run Try.prog w = .ok (.value (.agg #[v0, v1])) w := by
  simp [go_sem, he, c0, c1]
theorem run_loadM {x : Operand} {b : Nat} {v0 v1 : Value} (he : ev x = .pointer (some ⟨b, 0, none⟩)) (c0 : w.cell? ⟨b, 0, none⟩ = some v0) (c1 : w.cell? ⟨b, 1, none⟩ = some v1) : (execOp ev { dst := d, op := .load 27 x, type := t, pos := pos, after := aft, guard := none }).run Try.prog w = .ok (.value (.agg #[v0, v1])) w := by
  simp [go_sem, he, c0, c1]
theorem run_move {x : Operand} {v : Value} (he : ev x = v) : (execOp ev { dst := d, op := .move x, type := t, pos := pos, after := aft, guard := none }).run Try.prog w = .ok (.value v) w := by
  simp [go_sem, he]
theorem run_assign {x : Operand} {v : Value} (he : ev x = v) : (execOp ev { dst := d, op := .assign x, type := t, pos := pos, after := aft, guard := none }).run Try.prog w = .ok (.value v) w := by
  simp [go_sem, he]
theorem run_ext0 {x : Operand} {a b c : Value} (he : ev x = .tuple #[a, b, c]) : (execOp ev { dst := d, op := .extract x 0, type := t, pos := pos, after := aft, guard := none }).run Try.prog w = .ok (.value a) w := by
  simp [go_sem, he]
theorem run_ext1 {x : Operand} {a b c : Value} (he : ev x = .tuple #[a, b, c]) : (execOp ev { dst := d, op := .extract x 1, type := t, pos := pos, after := aft, guard := none }).run Try.prog w = .ok (.value b) w := by
  simp [go_sem, he]
theorem run_ext2 {x : Operand} {a b c : Value} (he : ev x = .tuple #[a, b, c]) : (execOp ev { dst := d, op := .extract x 2, type := t, pos := pos, after := aft, guard := none }).run Try.prog w = .ok (.value c) w := by
  simp [go_sem, he]
theorem run_call1 {f : FuncId} {x : Operand} {v : Value} {ts : Array TypeId} (hcf : ∀ args w, Sem.run Try.prog (callFunc f args) w = .ok (.enter f args) w) (hf : ev (.func f) = .func (.func f) #[] #[]) (he : ev x = v) : (execOp ev { dst := d, op := .call { callee := .value (.func f), args := #[x], argTypes := ts }, type := t, pos := pos, after := aft, guard := none }).run Try.prog w = .ok (.enter f #[v]) w := by
  simp [go_sem, he, hf, hcf]
theorem run_call4 {f : FuncId} {x y z u : Operand} {v0 v1 v2 v3 : Value} {ts : Array TypeId} (hcf : ∀ args w, Sem.run Try.prog (callFunc f args) w = .ok (.enter f args) w) (hf : ev (.func f) = .func (.func f) #[] #[]) (h0 : ev x = v0) (h1 : ev y = v1) (h2 : ev z = v2) (h3 : ev u = v3) : (execOp ev { dst := d, op := .call { callee := .value (.func f), args := #[x, y, z, u], argTypes := ts }, type := t, pos := pos, after := aft, guard := none }).run Try.prog w = .ok (.enter f #[v0, v1, v2, v3]) w := by
  simp [go_sem, h0, h1, h2, h3, hf, hcf]
theorem run_allocG : (execOp ev { dst := d, op := .alloc 47, type := t, pos := pos, after := aft, guard := none }).run Try.prog w = .ok (.value (.pointer (some ⟨w.heap.size, 0, none⟩))) (w.alloc (.cells #[.int .i64 0, .slice none 0 0] 47)) := by
  simp [go_sem]
theorem run_allocM : (execOp ev { dst := d, op := .alloc 35, type := t, pos := pos, after := aft, guard := none }).run Try.prog w = .ok (.value (.pointer (some ⟨w.heap.size, 0, none⟩))) (w.alloc (.cells #[.slice none 0 0, .slice none 0 0] 35)) := by
  simp [go_sem]
theorem run_storeG {x y : Operand} {b : Nat} {p : Int} {ao : Option Addr} {n cap : Nat} {u0 u1 : Value} (hx : ev x = .pointer (some ⟨b, 0, none⟩)) (hy : ev y = .agg #[.int .i64 p, .slice ao n cap]) (c0 : w.cell? ⟨b, 0, none⟩ = some u0) (c1 : w.cell? ⟨b, 1, none⟩ = some u1) (hz : ∀ o, w.frozen? ⟨b, o, none⟩ = false) : (execOp ev { dst := d, op := .store 47 x y, type := t, pos := pos, after := aft, guard := none }).run Try.prog w = .ok .skip ((w.setCell ⟨b, 0, none⟩ (.int .i64 p)).setCell ⟨b, 1, none⟩ (.slice ao n cap)) := by
  simp [go_sem, hx, hy, c0, c1, hz]
theorem run_storeM {x y : Operand} {b : Nat} {ao bo : Option Addr} {n cap m dap : Nat} {u0 u1 : Value} (hx : ev x = .pointer (some ⟨b, 0, none⟩)) (hy : ev y = .agg #[.slice ao n cap, .slice bo m dap]) (c0 : w.cell? ⟨b, 0, none⟩ = some u0) (c1 : w.cell? ⟨b, 1, none⟩ = some u1) (hz : ∀ o, w.frozen? ⟨b, o, none⟩ = false) : (execOp ev { dst := d, op := .store 35 x y, type := t, pos := pos, after := aft, guard := none }).run Try.prog w = .ok .skip ((w.setCell ⟨b, 0, none⟩ (.slice ao n cap)).setCell ⟨b, 1, none⟩ (.slice bo m dap)) := by
  simp [go_sem, hx, hy, c0, c1, hz]
end

end Go.Proofs.Ytmnohgcjdhokdah
