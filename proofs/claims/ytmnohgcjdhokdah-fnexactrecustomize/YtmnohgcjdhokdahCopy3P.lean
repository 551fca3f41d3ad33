/-
  'copy' of arcs from one list into a list of the call's own, as a law for the walk.
-/
import Derived.Test.YtmnohgcjdhokdahRwSpecP
set_option linter.unusedVariables false
set_option linter.unusedSimpArgs false
namespace Go.Proofs.Ytmnohgcjdhokdah
open Go.RowKit Go.Maps

theorem length_cellsOf (f : Nat → Int) (m : Nat) : (cellsOf f m).length = m := by simp [cellsOf]
theorem run_copy_arcs (w : World) (ty : TypeId) (g n cap : Nat) (b o sCap : Nat) (F T G f0 : Nat → Int) (hr : Row w (some ⟨b, o, none⟩) n F T G) (hown : Own w g n f0) :
    (Builtin.copy_ #[45, 45] ty #[.slice (some ⟨g, 0, none⟩) n cap, .slice (some ⟨b, o, none⟩) n sCap]).run Try.prog w = .ok (goInt n) (w.setRow g (cellsOf (ar F T G) (n * 3)).toArray) := by
  obtain ⟨i0, hi0, _, hz1, _⟩ := info_parts Try.infoArc
  obtain ⟨cur, hb, hcs, hc⟩ := hown
  have hl := run_loadCells_list (P := Try.prog) w ⟨b, o, none⟩ (cellsOf (ar F T G) (n * 3)) (Row.news hr)
  have hst := run_storeCells_at Try.prog g 0 89 (cellsOf (ar F T G) (n * 3)) 0 cur w hb (by rw [length_cellsOf]; omega) (cellsOf_one _ _)
  have hd : cur.toList.drop (n * 3) = [] := List.drop_eq_nil_of_le (by simp; omega)
  rw [length_cellsOf] at hl hst
  simp [hd] at hst
  simp [Builtin.copy_, run_underlying Try.underlying45, Builtin.lenOf, Builtin.firstCells, sizeOf, typeInfo, hi0, hz1, hl, hst]

theorem run_copy_zero (w : World) (ty : TypeId) (g cap : Nat) (ao : Option Addr) (sCap : Nat) :
    (Builtin.copy_ #[45, 45] ty #[.slice (some ⟨g, 0, none⟩) 0 cap, .slice ao 0 sCap]).run Try.prog w = .ok (goInt 0) w := by
  obtain ⟨i0, hi0, _, hz1, _⟩ := info_parts Try.infoArc
  have hl : ∀ (x : Addr), (loadCells x 0).run Try.prog w = .ok #[] w := fun x => by simpa using run_loadCells_list (P := Try.prog) w x [] (by simp)
  cases ao <;> simp [Builtin.copy_, run_underlying Try.underlying45, Builtin.lenOf, Builtin.firstCells, sizeOf, typeInfo, hi0, hz1, storeCells, hl]

theorem wpList_copy_arcs {w : World} {ops : Array Oper} {rest : List Oper} {o : Oper} {a : Act} {Q : Exit → Act → World → Prop} (hgd : o.guard = none) (d s : Operand)
    (ho : o.op = .call { callee := .builtin .copy, args := #[d, s], argTypes := #[45, 45] }) (g n cap : Nat) (ao : Option Addr) (sCap : Nat) (F T G f0 : Nat → Int)
    (hd : a.eval d = .slice (some ⟨g, 0, none⟩) n cap) (hs : a.eval s = .slice ao n sCap) (hr : Row w ao n F T G) (hown : Own w g n f0)
    (h : ∀ w', Own w' g n (ar F T G) → w.grownBy w' (some g) → wpList Try.prog ops Q rest (a.put o.dst (goInt n)) w') : wpList Try.prog ops Q (o :: rest) a w := by
  refine wpList_plain hgd fun K hK => ?_
  by_cases hp : 0 < n
  · obtain ⟨b, o', e, _⟩ := hr 0 hp
    subst e
    have hrun := run_copy_arcs w o.type g n cap b o' sCap F T G f0 hr hown
    unfold Oper.wp
    simp [execOp, ho, resolve, invoke, builtin, hd, hs, hrun, Result.andThen]
    obtain ⟨cur, hb, hcs, hc⟩ := hown
    refine hK _ _ (h _ ⟨_, setRow_heap w g cur _ _ _ hb, by simp [length_cellsOf], fun j hj => ?_⟩ ⟨rfl, rfl, rfl, by simp [World.setRow], fun k _ hne => setRow_other w g k _ (fun e => hne (by rw [e]))⟩)
    rw [List.getElem?_toArray, cellsOf, List.getElem?_map, List.getElem?_range hj]
    rfl
  · have e : n = 0 := by omega
    subst e
    have hrun := run_copy_zero w o.type g cap ao sCap
    unfold Oper.wp
    simp [execOp, ho, resolve, invoke, builtin, hd, hs, hrun, Result.andThen]
    exact hK _ _ (h _ (World.rowIs.congr hown (fun j hj => by omega)) (World.grownBy.refl _ _))

end Go.Proofs.Ytmnohgcjdhokdah
