/-
  A struct of any number of cells stored into its box, in one step.
-/
import Derived.Test.YticckgmkhgnmfaaDoorVh
import Derived.Test.YticckgmkhgnmfaaDoorBase
import Derived.Laws.Tables
set_option linter.unusedVariables false
set_option linter.unusedSimpArgs false
namespace Go.Proofs.YticckgmkhgnmfaaDoor
open Go.RowKit

/-- The cells of a list. -/
def lf (l : List Value) (j : Nat) : Value := l.getD j undef
def setL (W : World) (b : Nat) : Nat → List Value → World
  | _, [] => W
  | k, v :: vs => setL (W.setCell ⟨b, k, none⟩ v) b (k + 1) vs
theorem gr_setL (b : Nat) : ∀ (vs : List Value) (k : Nat) (W : World), W.grownBy (setL W b k vs) (some b)
  | [], k, W => ⟨rfl, rfl, rfl, Nat.le_refl _, fun _ _ _ => rfl⟩
  | v :: vs, k, W => (gr_setCell W b k v).trans (gr_setL b vs (k + 1) _)
theorem vhas_setL {b n : Nat} {t : TypeId} : ∀ (vs : List Value) (k : Nat) (W : World) (f : Nat → Value), VHas W b t n f → VHas (setL W b k vs) b t n (fun j => if k ≤ j ∧ j < k + vs.length then lf vs (j - k) else f j)
  | [], k, W, f, h => h.congr (fun j hj => by rw [if_neg (fun q => by simp at q; omega)])
  | v :: vs, k, W, f, h => by
    have h1 := vhas_setL vs (k + 1) _ _ (h.set k v)
    refine h1.congr (fun j hj => ?_)
    by_cases e : j = k
    · subst e
      rw [if_neg (by omega), if_pos rfl, if_pos (by simp), Nat.sub_self]
      rfl
    · by_cases c : k + 1 ≤ j ∧ j < k + 1 + vs.length
      · rw [if_pos c, if_pos (by simp; omega)]
        have : j - k = (j - (k + 1)) + 1 := by omega
        rw [this]
        rfl
      · rw [if_neg c, if_neg e, if_neg (by simp; omega)]
theorem run_storeL {P : Program} {b n : Nat} {t : TypeId} : ∀ (vs : List Value) (k : Nat) (W : World) (f : Nat → Value), VHas W b t n f → k + vs.length ≤ n → (∀ v ∈ vs, v.oneCell' = true) → (storeCells ⟨b, 0, none⟩ vs k).run P W = .ok () (setL W b k vs)
  | [], k, W, f, _, _, _ => by simp [storeCells, setL]
  | v :: vs, k, W, f, h, hk, hv => by
    have e1 : (⟨b, 0, none⟩ : Addr).add k = ⟨b, k, none⟩ := by rw [Addr.add_mid, Nat.zero_add]
    have c1 := h.cell (j := k) (by simp at hk; omega)
    have z1 := h.frozen k
    have ih := run_storeL (P := P) vs (k + 1) _ _ (h.set k v) (by simp at hk; omega) (fun u hu => hv u (List.mem_cons_of_mem _ hu))
    show Sem.run P (store ((⟨b, 0, none⟩ : Addr).add k) v >>= fun _ => storeCells ⟨b, 0, none⟩ vs (k + 1)) W = _
    rw [Sem.run_bind, e1, run_store P W _ v _ (hv v (List.mem_cons_self ..)), c1]
    simp only [z1]
    exact ih
theorem run_storeBox {P : Program} {b : Nat} {t ty : TypeId} {f : Nat → Value} {W : World} (vs : List Value) (h : VHas W b t vs.length f) (hi : (P.info? ty).map (·.size) = some vs.length) (hv : ∀ v ∈ vs, v.oneCell' = true) : (storeVar ty ⟨b, 0, none⟩ (.agg vs.toArray)).run P W = .ok () (setL W b 0 vs) := by
  cases hq : P.info? ty with
  | none => simp [hq] at hi
  | some i =>
    have hs : i.size = vs.length := by simpa [hq] using hi
    have hr := run_storeL (P := P) vs 0 W f h (by omega) hv
    simp [storeVar, sizeOf, typeInfo, hq, Value.cells, hs, hr]
theorem vhas_box {b : Nat} {t : TypeId} {f : Nat → Value} {W : World} (vs : List Value) (h : VHas W b t vs.length f) : VHas (setL W b 0 vs) b t vs.length (lf vs) :=
  (vhas_setL vs 0 W f h).congr (fun j hj => by rw [if_pos ⟨Nat.zero_le _, by omega⟩, Nat.sub_zero])
theorem wp_store_box {P : Program} {o : Oper} {a : Act} {W : World} {K : Act → World → Prop} {Q : Exit → Act → World → Prop} (ty : TypeId) (x y : Operand) (ho : o.op = .store ty x y) (b : Nat) (vs : List Value) (hx : a.eval x = .pointer (some ⟨b, 0, none⟩)) (hy : a.eval y = .agg vs.toArray)
    {t : TypeId} {f : Nat → Value} (hb : VHas W b t vs.length f) (hi : (P.info? ty).map (·.size) = some vs.length) (hv : ∀ v ∈ vs, v.oneCell' = true)
    (h : ∀ W', VHas W' b t vs.length (lf vs) → W.grownBy W' (some b) → K (a.put o.dst undef) W') : o.wp P a W K Q := by
  have hrun := run_storeBox (P := P) (ty := ty) vs hb hi hv
  unfold Oper.wp execOp
  simp only [ho, hx, hy, Instr.storeAt, Instr.sureAddr, Sem.run_bind, Sem.run_pure, Result.andThen_ok, hrun]
  exact h _ (vhas_box vs hb) (gr_setL b vs 0 W)
theorem wpList_store_box {P : Program} {o : Oper} {ops : Array Oper} {rest : List Oper} {a : Act} {W : World} {Q : Exit → Act → World → Prop} (hgd : o.guard = none) (ty : TypeId) (x y : Operand) (ho : o.op = .store ty x y) (hd : o.dst = none) (b : Nat) (vs : List Value) (hx : a.eval x = .pointer (some ⟨b, 0, none⟩)) (hy : a.eval y = .agg vs.toArray)
    {t : TypeId} {f : Nat → Value} (hb : VHas W b t vs.length f) (hi : (P.info? ty).map (·.size) = some vs.length) (hv : ∀ v ∈ vs, v.oneCell' = true)
    (h : ∀ W', VHas W' b t vs.length (lf vs) → W.grownBy W' (some b) → wpList P ops Q rest a W') : wpList P ops Q (o :: rest) a W :=
  wpList_plain hgd fun K hK => wp_store_box ty x y ho b vs hx hy hb hi hv fun W' h1 h2 => hK _ _ (by rw [hd]; exact h W' h1 h2)
/-- The first cells of a box. -/
theorem wpList_store_part {P : Program} {o : Oper} {ops : Array Oper} {rest : List Oper} {a : Act} {W : World} {Q : Exit → Act → World → Prop} (hgd : o.guard = none) (ty : TypeId) (x y : Operand) (ho : o.op = .store ty x y) (hd : o.dst = none) (b : Nat) (vs : List Value) (hx : a.eval x = .pointer (some ⟨b, 0, none⟩)) (hy : a.eval y = .agg vs.toArray)
    {t : TypeId} {n : Nat} {f : Nat → Value} (hb : VHas W b t n f) (hn : vs.length ≤ n) (hi : (P.info? ty).map (·.size) = some vs.length) (hv : ∀ v ∈ vs, v.oneCell' = true)
    (h : ∀ W', VHas W' b t n (fun j => if j < vs.length then lf vs j else f j) → W.grownBy W' (some b) → wpList P ops Q rest a W') : wpList P ops Q (o :: rest) a W := by
  have hrun : (storeVar ty ⟨b, 0, none⟩ (.agg vs.toArray)).run P W = .ok () (setL W b 0 vs) := by
    cases hq : P.info? ty with
    | none => simp [hq] at hi
    | some i =>
      have hs : i.size = vs.length := by simpa [hq] using hi
      have hr := run_storeL (P := P) vs 0 W f hb (by omega) hv
      simp [storeVar, sizeOf, typeInfo, hq, Value.cells, hs, hr]
  refine wpList_plain hgd fun K hK => ?_
  unfold Oper.wp execOp
  simp only [ho, hx, hy, Instr.storeAt, Instr.sureAddr, Sem.run_bind, Sem.run_pure, Result.andThen_ok, hrun]
  refine hK _ _ ?_
  rw [hd]
  exact h _ ((vhas_setL vs 0 W f hb).congr (fun j hj => by
    by_cases c : j < vs.length
    · rw [if_pos ⟨Nat.zero_le _, by omega⟩, if_pos c, Nat.sub_zero]
    · rw [if_neg (by omega), if_neg c])) (gr_setL b vs 0 W)

end Go.Proofs.YticckgmkhgnmfaaDoor
