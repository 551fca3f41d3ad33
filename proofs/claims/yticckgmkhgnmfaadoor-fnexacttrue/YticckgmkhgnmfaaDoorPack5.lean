/-
  Helpers, merged: Regs, StrR, CutR, WdsP, Jumps, OwnI, NumR.
-/
import Derived.Test.YticckgmkhgnmfaaDoorPack4
import Derived.Test.YticckgmkhgnmfaaDoorPack1
import Derived.ArgAppend
import Derived.Test.YticckgmkhgnmfaaDoorPack2
import Derived.Laws.RangeAny
import Derived.Test.YticckgmkhgnmfaaDoorRows
import Derived.Scope
/-
  Regions that draw their order: short forms for the contracts of their operations.
-/
set_option linter.unusedVariables false
set_option linter.unusedSimpArgs false
namespace Go.Proofs.YticckgmkhgnmfaaDoor
open Go Go.RowKit

/-- All that lay stands. -/
def RB (u v : World) : Prop := Below u.heap.size u v
theorem RB.refl (w : World) : RB w w := Below.refl _ _
theorem RB.trans (u v w : World) (h : RB u v) (k : RB v w) : RB u w := below_next h (Nat.le_refl _) k
theorem RB.alloc (w : World) (o : Obj) : RB w (w.alloc o) := (Below.refl w.heap.size w).alloc (Nat.le_refl _) o
/-- A value that is known. -/
def isV (u : Value) (v : Value) (_ : World) : Prop := v = u
theorem isV.rb {u : Value} (v : Value) (w w' : World) (h : isV u v w) (_ : RB w w') : isV u v w' := h
theorem oneAll {vs : List Value} (h : (vs.all fun v => v.oneCell') = true) : ∀ v ∈ vs, v.oneCell' = true := by simpa using h
theorem oneV {v : Value} (h : v.oneCell' = true) : v.oneCell' = true := h
theorem below_row {w W W' : World} {row : Option Nat} (h : Below w.heap.size w W) (hg : W.grownBy W' row) (hx : ∀ x, row = some x → w.heap.size ≤ x) : Below w.heap.size w W' :=
  ⟨hg.os.trans h.os, hg.tape.trans h.tape, hg.output.trans h.output, Nat.le_trans h.size hg.size, fun k hk => (hg.block k (Nat.lt_of_lt_of_le hk h.size) (fun q => by have := hx k q.symm; omega)).trans (h.block k hk)⟩
section
variable {P : Program} {ops : Array Oper}
theorem EvOk.get {a0 : Act} {o : Oper} {v : Nat → Value} {ev : Operand → Value} {Pr : Nat → Value → World → Prop} {w : World} (E : EvOk ops a0 o v ev) (pr : ∀ j, j < ops.size → waitsB o j = true → Pr j (v j) w) (j d : Nat)
    (h1 : (ops[j]?).bind (·.dst) = some d := by rfl) (h2 : waitsB o j = true := by kernel_rfl) (h3 : Nat.blt d a0.tmps.size = true := by kernel_rfl) (h4 : Nat.blt j ops.size = true := by kernel_rfl) : Pr j (ev (.tmp d)) w := by
  rw [E.at_ j d h1 h2 (Nat.le_of_ble_eq_true h3)]
  exact pr j (Nat.le_of_ble_eq_true h4) h2
theorem EvOk.was {a0 : Act} {o : Oper} {v : Nat → Value} {ev : Operand → Value} (E : EvOk ops a0 o v ev) (d : Nat) (u : Value) (h : noDstB ops d = true := by kernel_rfl) (h2 : a0.eval (.tmp d) = u := by rfl) : ev (.tmp d) = u := (E.old d h).trans h2
/-- An operation that reads. -/
theorem OpOk.get {a0 : Act} {w0 : World} {R : World → World → Prop} {Pr : Nat → Value → World → Prop} {i : Nat} {o : Oper} (hR : ∀ w, R w w) (u : Value) (hp : ∀ w, Pr i u w)
    (h : ∀ (ev : Operand → Value) (w : World) (v : Nat → Value), R w0 w → EvOk ops a0 o v ev → (∀ j, j < ops.size → waitsB o j = true → Pr j (v j) w) → (execOp ev o).run P w = .ok (.value u) w) (hg : o.guard = none := by rfl) : OpOk P ops a0 w0 R Pr i o :=
  OpOk.val hg fun ev w v hR' E pr => ⟨u, w, h ev w v hR' E pr, hR w, hp w⟩
theorem exec_append {o : Oper} {ev : Operand → Value} {s x : Operand} {t : TypeId} {v1 v2 u : Value} {w w' : World} (ho : o.op = .call { callee := .builtin .append, args := #[s, x], argTypes := #[t, t] }) (hs : ev s = v1) (hx : ev x = v2) (hr : (Builtin.append_ #[t, t] o.type #[v1, v2]).run P w = .ok u w') : (execOp ev o).run P w = .ok (.value u) w' := by
  unfold execOp
  simp only [ho, resolve, invoke, builtin, Sem.run_bind, Sem.run_pure, Result.andThen_ok, List.map_toArray, List.map_cons, List.map_nil, hs, hx, hr]
/-- A struct stored into its box. -/
theorem exec_box {o : Oper} {ev : Operand → Value} {ty : TypeId} {x y : Operand} {b : Nat} {t : TypeId} {f : Nat → Value} {W : World} (vs : List Value) (ho : o.op = .store ty x y) (hx : ev x = .pointer (some ⟨b, 0, none⟩)) (hy : ev y = .agg vs.toArray) (hb : VHas W b t vs.length f) (hi : (P.info? ty).map (·.size) = some vs.length) (hv : ∀ v ∈ vs, v.oneCell' = true) : (execOp ev o).run P W = .ok .skip (setL W b 0 vs) := by
  have hrun := run_storeBox (P := P) (ty := ty) vs hb hi hv
  unfold execOp
  simp only [ho, hx, hy, Instr.storeAt, Instr.sureAddr, Sem.run_bind, Sem.run_pure, Result.andThen_ok, hrun]
/-- What the table says of an element's type. -/
structure ElI (P : Program) (t e : TypeId) (size bytes : Nat) : Prop where
  und : P.underlying t = some (.slice e)
  inf : ∃ i z, P.info? e = some i ∧ i.zero = some z ∧ i.size = size ∧ i.bytes = bytes ∧ z.cells.size = size
  pos : 0 < size
  few : bytes ≤ 1000
/-- append([]T{}, list...): new memory. -/
theorem run_cat0 {t e : TypeId} {size bytes : Nat} (E : ElI P t e size bytes) (w : World) (ty : TypeId) (base g : Nat) (f : Nat → Value) (h0 : GOwn w base e size (some ⟨g, 0, none⟩) 0 0 f) (so : Option Addr) (m c : Nat) (hr : GRow w so (m * size) f) (h1 : ∀ j, (f j).oneCell' = true) (hm : m ≤ 1048576) (hbase : base ≤ w.heap.size) :
    ∃ ao' cap' w', (Builtin.append_ #[t, t] ty #[.slice (some ⟨g, 0, none⟩) 0 0, .slice so m c]).run P w = .ok (.slice ao' m cap') w' ∧ GOwn w' base e size ao' m cap' f ∧ RB w w' := by
  obtain ⟨und, ⟨i, z, hi, hz, hs, hb, hzs⟩, pos, few⟩ := E
  rcases Nat.eq_zero_or_pos m with h9 | h9
  · subst h9
    refine ⟨some ⟨g, 0, none⟩, 0, w, ?_, h0, RB.refl _⟩
    cases so <;> simp [Builtin.append_, run_underlying und, sizeOf, typeInfo, hi, Builtin.lenOf, Builtin.firstCells, storeCells, loadCells, loadCellsFrom]
  · have hp : 0 < m * size := Nat.mul_pos h9 pos
    obtain ⟨b, off, e', _⟩ := hr hp
    subst e'
    obtain ⟨v', w', h2, h3, h4⟩ := run_append_arg_grows (P := P) w t ty e i z size bytes und hi hz hs hb hzs pos ⟨g, 0, none⟩ 0 0 [] (by simp) (fun j u hu => by simp at hu) ⟨b, off, none⟩ m c (gCells f (m * size)) (gCells_len _ _) (GRow.news hr) (by omega) (by unfold maxLen; omega) (by
      have : (0 + m) * bytes ≤ 1048576 * 1000 := Nat.mul_le_mul (by omega) few
      omega)
    rw [Nat.zero_add, List.nil_append] at h3
    obtain ⟨g', cap', e1, _, _⟩ := h3.form h9
    subst e1
    exact ⟨some ⟨g', 0, none⟩, cap', w', h2, GOwn.from h3 hbase, ⟨h4.os, h4.tape, h4.output, h4.size, fun k hk => h4.block k hk (by simp)⟩⟩
/-- A list of one's own, as a value. -/
def LO (base : Nat) (t : TypeId) (size n : Nat) (f : Nat → Value) (v : Value) (w : World) : Prop := ∃ ao cap, v = .slice ao n cap ∧ GOwn w base t size ao n cap f
theorem LO.rb {base : Nat} {t : TypeId} {size n : Nat} {f : Nat → Value} (v : Value) (w w' : World) (h : LO base t size n f v w) (hb : RB w w') : LO base t size n f v w' := by
  obtain ⟨ao, cap, e, h⟩ := h
  exact ⟨ao, cap, e, h.next hb⟩
/-- An empty list of one's own, of no room. -/
def LE (base : Nat) (t : TypeId) (v : Value) (w : World) : Prop := ∃ g, v = .slice (some ⟨g, 0, none⟩) 0 0 ∧ Typed w g t ∧ base ≤ g ∧ ∀ size f, GOwn w base t size (some ⟨g, 0, none⟩) 0 0 f
theorem LE.rb {base : Nat} {t : TypeId} (v : Value) (w w' : World) (h : LE base t v w) (hb : RB w w') : LE base t v w' := by
  obtain ⟨g, e, ht, hg, h⟩ := h
  refine ⟨g, e, ?_, hg, fun size f => (h size f).next hb⟩
  obtain ⟨cs, z, h1⟩ := ht
  have hlt := (Array.getElem?_eq_some_iff.1 h1).1
  exact ⟨cs, z, by rw [hb.block g hlt]; exact h1⟩
theorem LE.new (w : World) (base : Nat) (t : TypeId) (hb : base ≤ w.heap.size) : LE base t (.slice (some ⟨w.heap.size, 0, none⟩) 0 0) (w.alloc (.cells #[] t)) :=
  ⟨w.heap.size, rfl, ⟨#[], (0, 0), Go.Deep.blk_alloc_new _ _⟩, hb, fun size f => (GOwn.empty w t size f).from hb⟩
/-- append([]T{}, list...), an operation of a region. -/
theorem OpOk.cat {a0 : Act} {w0 : World} {Pr : Nat → Value → World → Prop} {i : Nat} {o : Oper} {t e : TypeId} {size bytes : Nat} (El : ElI P t e size bytes) (base : Nat) (so : Option Addr) (m c : Nat) (f : Nat → Value) (h1 : ∀ j, (f j).oneCell' = true) (hm : m ≤ 1048576) (hbase : base ≤ w0.heap.size)
    (j1 d1 j2 d2 : Nat) (ho : o.op = .call { callee := .builtin .append, args := #[.tmp d1, .tmp d2], argTypes := #[t, t] })
    (hE : ∀ v w, Pr j1 v w → LE base e v w) (hX : ∀ v w, Pr j2 v w → v = .slice so m c) (hr : ∀ w, RB w0 w → GRow w so (m * size) f) (hP : ∀ v w, LO base e size m f v w → Pr i v w)
    (hg : o.guard = none := by rfl) (q1 : (ops[j1]?).bind (·.dst) = some d1 := by rfl) (q2 : waitsB o j1 = true := by kernel_rfl) (q3 : Nat.blt d1 a0.tmps.size = true := by kernel_rfl) (q4 : Nat.blt j1 ops.size = true := by kernel_rfl)
    (p1 : (ops[j2]?).bind (·.dst) = some d2 := by rfl) (p2 : waitsB o j2 = true := by kernel_rfl) (p3 : Nat.blt d2 a0.tmps.size = true := by kernel_rfl) (p4 : Nat.blt j2 ops.size = true := by kernel_rfl) : OpOk P ops a0 w0 RB Pr i o := by
  refine OpOk.val hg fun ev w v hR E pr => ?_
  obtain ⟨g, e1, _, _, h0⟩ := hE _ _ (E.get pr j1 d1 q1 q2 q3 q4)
  have e2 := hX _ _ (E.get pr j2 d2 p1 p2 p3 p4)
  obtain ⟨ao', cap', w', hrun, hown, hb⟩ := run_cat0 El w o.type base g f (h0 size f) so m c (hr w hR) h1 hm (Nat.le_trans hbase hR.size)
  exact ⟨_, w', exec_append ho e1 e2 hrun, hb, hP _ _ ⟨ao', cap', rfl, hown⟩⟩
/-- One cell stored into a box. -/
theorem exec_cell {o : Oper} {ev : Operand → Value} {ty : TypeId} {x y : Operand} {b k n : Nat} {t : TypeId} {f : Nat → Value} {W : World} {v : Value} (ho : o.op = .store ty x y) (hx : ev x = .pointer (some ⟨b, k, none⟩)) (hy : ev y = v) (hb : VHas W b t n f) (hk : k < n) (hi : (P.info? ty).map (·.size) = some 1) (hvc : v.cells = #[v]) (hv : v.oneCell' = true) : (execOp ev o).run P W = .ok .skip (W.setCell ⟨b, k, none⟩ v) := by
  have c1 := hb.cell hk
  have z1 := hb.frozen k
  have hrun : (storeVar ty ⟨b, k, none⟩ v).run P W = .ok () (W.setCell ⟨b, k, none⟩ v) := by
    cases hq : P.info? ty with
    | none => simp [hq] at hi
    | some i =>
      have hs : i.size = 1 := by simpa [hq] using hi
      have e1 : (⟨b, k, none⟩ : Addr).add 0 = ⟨b, k, none⟩ := by rw [Addr.add_mid]; rfl
      have hst : (store (⟨b, k, none⟩ : Addr) v).run P W = .ok () (W.setCell ⟨b, k, none⟩ v) := by
        rw [run_store P W _ v _ hv, c1]
        simp [z1]
      simp [storeVar, sizeOf, typeInfo, hq, hvc, hs, storeCells, e1, hst]
  unfold execOp
  simp only [ho, hx, hy, Instr.storeAt, Instr.sureAddr, Sem.run_bind, Sem.run_pure, Result.andThen_ok, hrun]
/-- append(own, list...). -/
theorem run_app {t e : TypeId} {size bytes : Nat} (E : ElI P t e size bytes) (w : World) (ty : TypeId) (base : Nat) (f : Nat → Value) (ao : Option Addr) (n cap : Nat) (h0 : GOwn w base e size ao n cap f) (so : Option Addr) (m c : Nat) (g : Nat → Value) (hr : GRow w so (m * size) g) (h1 : ∀ j, (g j).oneCell' = true) (hn : n + m ≤ 100000000) (hbase : base ≤ w.heap.size) :
    ∃ ao' cap' w', (Builtin.append_ #[t, t] ty #[.slice ao n cap, .slice so m c]).run P w = .ok (.slice ao' (n + m) cap') w' ∧ GOwn w' base e size ao' (n + m) cap' (fun j => if j < n * size then f j else g (j - n * size)) ∧ w.grownBy w' (Value.slice ao n cap).ownBlock ∧ ((Value.slice ao' (n + m) cap').ownBlock = (Value.slice ao n cap).ownBlock ∨ (Value.slice ao' (n + m) cap').ownBlock = some w.heap.size) := by
  obtain ⟨und, ⟨i, z, hi, hz, hs, hb, hzs⟩, pos, few⟩ := E
  rcases Nat.eq_zero_or_pos m with h9 | h9
  · subst h9
    refine ⟨ao, cap, w, ?_, h0.congr (fun j hj => by rw [if_pos hj]), ⟨rfl, rfl, rfl, Nat.le_refl _, fun _ _ _ => rfl⟩, .inl rfl⟩
    have hnc : n ≤ cap := by
      rcases h0.2 with ⟨h2, h3⟩ | ⟨g', cap', cur, h2, _, _, h3, _⟩
      · omega
      · simp at h2; omega
    cases so <;> cases ao <;> simp [Builtin.append_, run_underlying und, sizeOf, typeInfo, hi, Builtin.lenOf, Builtin.firstCells, storeCells, loadCells, loadCellsFrom, hnc]
  · have hp : 0 < m * size := Nat.mul_pos h9 pos
    obtain ⟨b, off, e', _⟩ := hr hp
    subst e'
    obtain ⟨g', cap', w', h2, h3, h4, h5, _⟩ := run_append_lies (P := P) w t ty base e i z size bytes und hi hz hs hb hzs pos (.slice ao n cap) n (gCells f (n * size)) h0 ⟨b, off, none⟩ m c (gCells g (m * size)) (gCells_len _ _) (GRow.news hr) (fun u hu => by
      obtain ⟨j, _, rfl⟩ := List.mem_map.1 hu
      exact h1 j) h9 (by unfold maxLen; omega) (by
      have : (n + m) * bytes ≤ 100000000 * 1000 := Nat.mul_le_mul hn few
      omega) hbase w.heap.size rfl
    refine ⟨some ⟨g', 0, none⟩, cap', w', h2, ?_, h4, ?_⟩
    · unfold GOwn
      have e : gCells f (n * size) ++ gCells g (m * size) = gCells (fun j => if j < n * size then f j else g (j - n * size)) ((n + m) * size) := by
        have := gCells_app (f := f) (g := g) (h := fun j => if j < n * size then f j else g (j - n * size)) (a := n * size) (b := m * size) (fun j hj => by rw [if_pos hj]) (fun j hj => by rw [if_neg (by omega)]; congr 1; omega)
        rw [Nat.add_mul]
        exact this
      rw [← e]
      exact h3
    · rcases h5 with h5 | h5
      · exact .inl (by rw [h5]; rfl)
      · exact .inr (by rw [h5]; rfl)
/-- A list of one element, just made. -/
def L1 (x : Value) (v : Value) (w : World) : Prop := ∃ B, v = .slice (some ⟨B, 0, none⟩) 1 1 ∧ w.cell? ⟨B, 0, none⟩ = some x
theorem L1.rb {x : Value} (v : Value) (w w' : World) (h : L1 x v w) (hb : RB w w') : L1 x v w' := by
  obtain ⟨B, e, h⟩ := h
  exact ⟨B, e, keep_cell hb (Nat.le_refl _) h⟩
theorem L1.new (x : Value) (t : TypeId) (w : World) : L1 x (.slice (some ⟨w.heap.size, 0, none⟩) 1 1) (w.alloc (.cells #[x] t)) := ⟨w.heap.size, rfl, by simp [go_sem]⟩
theorem L1.row {x : Value} {B : Nat} {w : World} (h : w.cell? ⟨B, 0, none⟩ = some x) : GRow w (some ⟨B, 0, none⟩) (1 * 1) (fun _ => x) := fun _ => ⟨B, 0, rfl, fun j hj => by
  have : j = 0 := by omega
  subst this
  exact h⟩
/-- One cell stored into a box, in a plain region. -/
theorem wpList_cell {o : Oper} {rest : List Oper} {a : Act} {W : World} {Q : Exit → Act → World → Prop} (hgd : o.guard = none) (ty : TypeId) (x y : Operand) (ho : o.op = .store ty x y) (hd : o.dst = none) (b k : Nat) (v : Value) (hx : a.eval x = .pointer (some ⟨b, k, none⟩)) (hy : a.eval y = v) {t : TypeId} {n : Nat} {f : Nat → Value} (hb : VHas W b t n f) (hk : k < n) (hi : (P.info? ty).map (·.size) = some 1) (hvc : v.cells = #[v]) (hv : v.oneCell' = true)
    (h : ∀ W', W' = W.setCell ⟨b, k, none⟩ v → wpList P ops Q rest a W') : wpList P ops Q (o :: rest) a W :=
  wpList_plain hgd fun K hK => by
    have hr := exec_cell (P := P) ho hx hy hb hk hi hvc hv
    unfold Oper.wp
    rw [hr]
    simp only [Oper.upon, hd]
    refine hK _ _ ?_
    exact h _ rfl
/-- append(own, list...), in a plain region. -/
theorem wpList_app {o : Oper} {rest : List Oper} {a : Act} {w : World} {Q : Exit → Act → World → Prop} (hgd : o.guard = none) (s x : Operand) {t e : TypeId} {size bytes : Nat} (E : ElI P t e size bytes) (ho : o.op = .call { callee := .builtin .append, args := #[s, x], argTypes := #[t, t] }) (d : Nat) (hd : o.dst = some d) (base : Nat) (f : Nat → Value) (ao : Option Addr) (n cap : Nat) (hs : a.eval s = .slice ao n cap) (h0 : GOwn w base e size ao n cap f) (so : Option Addr) (m c : Nat) (g : Nat → Value) (hx : a.eval x = .slice so m c) (hr : GRow w so (m * size) g) (h1 : ∀ j, (g j).oneCell' = true) (hn : n + m ≤ 100000000) (hbase : base ≤ w.heap.size)
    (h : ∀ ao' cap' w', GOwn w' base e size ao' (n + m) cap' (fun j => if j < n * size then f j else g (j - n * size)) → w.grownBy w' (Value.slice ao n cap).ownBlock → ((Value.slice ao' (n + m) cap').ownBlock = (Value.slice ao n cap).ownBlock ∨ (Value.slice ao' (n + m) cap').ownBlock = some w.heap.size) → wpList P ops Q rest (a.put (some d) (.slice ao' (n + m) cap')) w') : wpList P ops Q (o :: rest) a w :=
  wpList_plain hgd fun K hK => by
    obtain ⟨ao', cap', w', hrun, h2, h3, h4⟩ := run_app E w o.type base f ao n cap h0 so m c g hr h1 hn hbase
    have hr2 := exec_append (P := P) ho hs hx hrun
    unfold Oper.wp
    rw [hr2]
    simp only [Oper.upon, hd]
    exact hK _ _ (h ao' cap' w' h2 h3 h4)
end

end Go.Proofs.YticckgmkhgnmfaaDoor

/-
  Lists of texts.
-/
set_option linter.unusedVariables false
set_option linter.unusedSimpArgs false
namespace Go.Proofs.YticckgmkhgnmfaaDoor
open Go.ChangeShapes Go.WideShapes Go.ChangeAt Go.RowKit Go.Deep Go.Joins

/-- Texts behind a slice. -/
def SRow (w : World) (ao : Option Addr) (n : Nat) (S : Nat → ByteArray) : Prop := ∀ k, k < n → ∃ b o, ao = some ⟨b, o, none⟩ ∧ w.cell? ⟨b, o + k, none⟩ = some (.string (S k))
theorem SRow.below {w w' : World} {B : Nat} {ao : Option Addr} {n : Nat} {S : Nat → ByteArray} (h : SRow w ao n S) (hb : Below B w w') (hB : w.heap.size ≤ B) : SRow w' ao n S := fun k hk => by
  obtain ⟨b, o, e, c0⟩ := h k hk
  have hlt := lt_of_cell c0
  exact ⟨b, o, e, by rw [hb.cell (by simp; omega)]; exact c0⟩
abbrev StHas (w : World) (b n : Nat) (S : Nat → ByteArray) : Prop := VHas w b 9 n (fun j => .string (S j))
theorem sthas_row {w : World} {b n : Nat} {S : Nat → ByteArray} (h : StHas w b n S) : SRow w (some ⟨b, 0, none⟩) n S := fun k hk => ⟨b, 0, rfl, by have := h.cell hk; simpa using this⟩

end Go.Proofs.YticckgmkhgnmfaaDoor

/-
  The first rune of a text and what is behind it; whether a rune is a digit.
-/
set_option linter.unusedVariables false
set_option linter.unusedSimpArgs false
namespace Go.Proofs.YticckgmkhgnmfaaDoor
open Go.RowKit
attribute [local go_sem ↓] Go.wp_at_zero Go.wp_at_succ

/-- What a text is cut into: nothing; a sign of one byte; another one, which is none of those that are asked for. -/
def Cut (l : List UInt8) (r : Int) (l' : List UInt8) : Prop :=
  match l with
  | [] => r = -1 ∧ l' = []
  | c :: t => l'.length ≤ t.length ∧ ((c.toNat < 128 ∧ r = (c.toNat : Int) ∧ l' = t) ∨ (128 ≤ c.toNat ∧ 128 ≤ r ∧ r ≤ 2147483647))
theorem Cut.bd {l l' : List UInt8} {r : Int} (h : Cut l r l') : -1 ≤ r ∧ r ≤ 2147483647 := by
  cases l with
  | nil => simp [Cut] at h; omega
  | cons c t =>
    obtain ⟨_, h | h⟩ := h
    · omega
    · omega
theorem Cut.len {l l' : List UInt8} {r : Int} (h : Cut l r l') : l'.length ≤ l.length ∧ (0 ≤ r → l'.length < l.length) := by
  cases l with
  | nil => simp [Cut] at h; simp [h]
  | cons c t =>
    have := h.1
    simp; omega
theorem width_pos (s : ByteArray) (pos : Nat) (h : pos < s.size) : 1 ≤ (Utf8.decode s pos).2 := by
  by_cases ha : (s[pos]'h).toNat < 128
  · rw [decode_ascii s pos h ha]
    exact Nat.le_refl _
  · exact (decode_high s pos h (by omega)).2
theorem iter_below (w : World) (s : ByteArray) (pos : Nat) : Below w.heap.size w (w.iter s pos) := (Below.refl _ _).alloc (Nat.le_refl _) _
theorem below_dn {B : Nat} {a w : World} (h : Below B a w) (n : Nat) : Below B a (w.drewN n) := ⟨h.os, h.tape, h.output, h.size, h.block⟩
theorem list_of (s : ByteArray) (h : 0 < s.size) : s.data.toList = s[0] :: s.data.toList.tail := by
  have h' : 0 < s.data.toList.length := by simpa using h
  have e : s[0] = s.data.toList[0] := by simp; rfl
  rw [e]
  exact (fun (l : List UInt8) (h : 0 < l.length) => show l = l[0] :: l.tail from by
    cases l with
    | nil => simp at h
    | cons c t => simp) s.data.toList h'
theorem cut_of (s : ByteArray) (h : 0 < s.size) (l' : List UInt8) (h1 : l' = s.data.toList.drop (Utf8.decode s 0).2) : Cut s.data.toList ((Utf8.decode s 0).1 : Int) l' := by
  have hw := width_pos s 0 h
  rw [list_of s h] at h1 ⊢
  have hlen : s.data.toList.tail.length = s.size - 1 := by simp
  by_cases ha : (s[0]'h).toNat < 128
  · rw [decode_ascii s 0 h ha] at h1 ⊢
    simp at h1
    subst h1
    exact ⟨Nat.le_refl _, .inl ⟨ha, rfl, rfl⟩⟩
  · have hd := decode_high s 0 h (by omega)
    have hle := decode_le s 0
    refine ⟨?_, .inr ⟨by omega, by omega, by omega⟩⟩
    rw [h1, List.length_drop]
    simp only [List.length_cons]
    omega
theorem drop_extract (s : ByteArray) (k : Nat) : (s.extract k s.size).data.toList = s.data.toList.drop k := by
  simp [ByteArray.data_extract]
  exact List.take_of_length_le (by simp)

set_option maxHeartbeats 1000000 in
set_option maxRecDepth 20000 in
theorem cutRune_any (s : ByteArray) (hs : s.size ≤ 1048576) (w : World) :
    Calls Tryd.prog 81 #[.string s] w fun e w' => ∃ (r : Int) (t : ByteArray), e = .returned (.tuple #[.int .i32 r, .string t]) ∧ Cut s.data.toList r t.data.toList ∧ Below w.heap.size w w' := by
  go_enter Tryd.func81, Tryd.ntmps81
  go_wp2
  go_loopw [4] (fun f w' => ∃ pos : Nat, w' = w.iter s pos ∧ ((pos = 0 ∧ f = .int .i32 (-1)) ∨ (0 < s.size ∧ pos = (Utf8.decode s 0).2 ∧ f = .int .i32 (Utf8.decode s 0).1))) (fun _ w' => s.size - w'.iterPos w.heap.size)
  case atStart => exact ⟨0, rfl, .inl ⟨rfl, rfl⟩⟩
  case round =>
    obtain ⟨pos, rfl, h⟩ := hrel
    by_cases hp : pos < s.size
    · have hnx : ∀ ty, (Instr.next (.pointer (some ⟨w.heap.size, 0, none⟩)) true ty).run Tryd.prog (w.iter s pos) = _ := fun ty => run_next_any w s pos ty hp
      have hwd := width_pos s pos hp
      rcases h with ⟨rfl, rfl⟩ | ⟨h0, rfl, rfl⟩
      · go_wp2
        go_roundw
        case rel => exact ⟨(Utf8.decode s 0).2, by simp, .inr ⟨hp, rfl, rfl⟩⟩
        case measure => simp; omega
      · have hw0 := width_pos s 0 h0
        have hpos : (0 : Int) < ((Utf8.decode s 0).2 : Int) := by omega
        go_wp2
        go_quiet (fail)
        go_wp2
        go_ret2
        exact ⟨_, _, rfl, cut_of s h0 _ (drop_extract s _), below_dn (iter_below _ _ _) _⟩
    · have hnx : ∀ ty, (Instr.next (.pointer (some ⟨w.heap.size, 0, none⟩)) true ty).run Tryd.prog (w.iter s pos) = _ := fun ty => run_next_end w s pos ty hp
      rcases h with ⟨rfl, rfl⟩ | ⟨h0, rfl, rfl⟩
      · have hsz : s.size = 0 := by omega
        have hl : s.data.toList = [] := List.eq_nil_of_length_eq_zero (by simpa using hsz)
        go_wp2
        go_ret2
        exact ⟨_, _, rfl, by rw [hl]; exact ⟨rfl, rfl⟩, iter_below _ _ _⟩
      · go_wp2
        go_ret2
        exact ⟨_, _, rfl, cut_of s h0 _ (by rw [List.drop_eq_nil_of_le (by simp; omega)]), iter_below _ _ _⟩

def digB (r : Int) : Bool := decide (48 ≤ r) && decide (r ≤ 57)
theorem isDigit_any (r : Int) (w : World) :
    Calls Tryd.prog 82 #[.int .i32 r] w fun e w' => e = .returned (.bool (digB r)) ∧ w' = w := by
  by_cases h1 : 48 ≤ r <;> by_cases h2 : r ≤ 57 <;>
  · go_enter Tryd.func82, Tryd.ntmps82
    go_wp2
    go_ret
    exact ⟨by simp [digB, h1, h2], rfl⟩

end Go.Proofs.YticckgmkhgnmfaaDoor

/-
  Where the reading of a name stands, and what comes of the sign behind it.
-/
set_option linter.unusedVariables false
set_option linter.unusedSimpArgs false
namespace Go.Proofs.YticckgmkhgnmfaaDoor

/-- So far there were letters alone. -/
def NameAt (l rest : List UInt8) : Prop := ∃ pre, l = pre ++ rest ∧ pre.all isL = true
theorem drop_pre {pre rest : List UInt8} (h : pre.all isL = true) (hr : ∀ c t, rest = c :: t → isL c = false) : (pre ++ rest).dropWhile isL = rest ∧ (pre ++ rest).takeWhile isL = pre := by
  induction pre with
  | nil =>
    cases rest with
    | nil => exact ⟨rfl, rfl⟩
    | cons c t => simp [hr c t rfl]
  | cons d u ih =>
    simp at h
    obtain ⟨h1, h2⟩ := ih (by simpa using h.2)
    simp [h.1, h1, h2]
theorem isL_iff {c : UInt8} : isL c = true ↔ 97 ≤ (c.toNat : Int) ∧ (c.toNat : Int) ≤ 122 := by simp [isL]; omega
theorem name_letter {l rest rest' : List UInt8} {r : Int} (h : NameAt l rest) (hc : Cut rest r rest') (h1 : 97 ≤ r) (h2 : r ≤ 122) : NameAt l rest' := by
  obtain ⟨pre, e, hp⟩ := h
  cases rest with
  | nil => simp [Cut] at hc; omega
  | cons c t =>
    rcases hc.2 with ⟨g1, g2, g3⟩ | ⟨g1, g2, _⟩
    · subst g3
      exact ⟨pre ++ [c], by rw [e]; simp, by rw [List.all_append, hp]; simp; exact isL_iff.2 (by omega)⟩
    · omega
theorem name_end {l rest rest' : List UInt8} (h : NameAt l rest) (hc : Cut rest (-1) rest') : wds l = some (l, []) := by
  obtain ⟨pre, e, hp⟩ := h
  cases rest with
  | nil =>
    have := drop_pre (rest := []) hp (fun c t h => by cases h)
    rw [← e] at this
    unfold wds
    rw [this.1]
  | cons c t =>
    rcases hc.2 with ⟨g1, g2, g3⟩ | ⟨g1, g2, _⟩
    · omega
    · omega
theorem name_blank {l rest rest' : List UInt8} (h : NameAt l rest) (hc : Cut rest 32 rest') : wds l = (inums rest' (.ahead [])).map (fun ns => (l.take (l.length - rest'.length - 1), ns)) ∧ rest'.length + 1 ≤ l.length := by
  obtain ⟨pre, e, hp⟩ := h
  cases rest with
  | nil => simp [Cut] at hc
  | cons c t =>
    rcases hc.2 with ⟨g1, g2, g3⟩ | ⟨g1, g2, _⟩
    · subst g3
      have h32 : c = 32 := UInt8.toNat_inj.1 (by simp; omega)
      subst h32
      have := drop_pre (rest := 32 :: rest') hp (fun c t h => by cases h; decide)
      rw [← e] at this
      have hl : l.take (l.length - rest'.length - 1) = pre := by
        rw [e]
        have : (pre ++ 32 :: rest').length - rest'.length - 1 = pre.length := by simp; omega
        rw [this]
        simp
      refine ⟨?_, by rw [e]; simp⟩
      rw [hl]
      unfold wds
      rw [this.1, this.2]
      simp
    · omega
theorem name_other {l rest rest' : List UInt8} {r : Int} (h : NameAt l rest) (hc : Cut rest r rest') (h1 : ¬ (97 ≤ r ∧ r ≤ 122)) (h2 : r ≠ 32) (h3 : r ≠ -1) : wds l = none := by
  obtain ⟨pre, e, hp⟩ := h
  cases rest with
  | nil => simp [Cut] at hc; omega
  | cons c t =>
    have hl : isL c = false := by
      cases hl : isL c with
      | false => rfl
      | true =>
        have := isL_iff.1 hl
        rcases hc.2 with ⟨g1, g2, g3⟩ | ⟨g1, g2, _⟩
        · omega
        · omega
    have h32 : c ≠ 32 := by
      rintro rfl
      rcases hc.2 with ⟨g1, g2, g3⟩ | ⟨g1, g2, _⟩
      · simp at g2; omega
      · simp at g1
    have := drop_pre (rest := c :: t) hp (fun d u h => by cases h; exact hl)
    rw [← e] at this
    unfold wds
    rw [this.1]
    simp [h32]
/-- Ahead of a number. -/
theorem ahead_cut {rest rest' : List UInt8} {r : Int} {out : List Int} (hc : Cut rest r rest') (ho : out.length ≠ 30) :
    (r = 48 → inums rest (.ahead out) = inums rest' (.behind (out ++ [0]))) ∧ (49 ≤ r ∧ r ≤ 57 → inums rest (.ahead out) = inums rest' (.within (r - 48) out)) ∧ (¬ (48 ≤ r ∧ r ≤ 57) → inums rest (.ahead out) = none) := by
  cases rest with
  | nil =>
    simp [Cut] at hc
    exact ⟨fun h => by omega, fun h => by omega, fun _ => rfl⟩
  | cons c t =>
    have hi : inums (c :: t) (.ahead out) = if c = 48 then inums t (.behind (out ++ [0])) else if isD c = true then inums t (.within (dg c) out) else none := by simp [inums, ho]
    rw [hi]
    rcases hc.2 with ⟨g1, g2, g3⟩ | ⟨g1, g2, _⟩
    · subst g3
      refine ⟨fun h => ?_, fun h => ?_, fun h => ?_⟩
      · have : c = 48 := UInt8.toNat_inj.1 (by simp; omega)
        simp [this]
      · have h48 : c ≠ 48 := fun e => by rw [e] at g2; simp at g2; omega
        have hd : isD c = true := by simp [isD]; omega
        have hg : dg c = r - 48 := by unfold dg; omega
        simp [h48, hd, hg]
      · have h48 : c ≠ 48 := fun e => by rw [e] at g2; simp at g2; omega
        have hd : isD c = false := by simp [isD]; omega
        simp [h48, hd]
    · have h48 : c ≠ 48 := fun e => by rw [e] at g1; simp at g1
      have hd : isD c = false := by simp [isD]; omega
      exact ⟨fun h => by omega, fun h => by omega, fun h => by simp [h48, hd]⟩
/-- Behind a number. -/
def bhd (r : Int) (rest : List UInt8) (out : List Int) : Option (List Int) := if r = 32 then inums rest (.ahead out) else if r = -1 then some out else none
theorem behind_cut {rest rest' : List UInt8} {r : Int} {out : List Int} (hc : Cut rest r rest') : inums rest (.behind out) = bhd r rest' out := by
  unfold bhd
  cases rest with
  | nil =>
    simp [Cut] at hc
    simp [hc, inums]
  | cons c t =>
    rcases hc.2 with ⟨g1, g2, g3⟩ | ⟨g1, g2, _⟩
    · subst g3
      by_cases h : c = 32
      · subst h
        have : r = 32 := by simpa using g2
        simp [inums, this]
      · have h32 : r ≠ 32 := fun e => h (UInt8.toNat_inj.1 (by simp; omega))
        have h1 : r ≠ -1 := by omega
        simp [inums, h, h32, h1]
    · have h : c ≠ 32 := fun e => by rw [e] at g1; simp at g1
      have h32 : r ≠ 32 := by omega
      have h1 : r ≠ -1 := by omega
      simp [inums, h, h32, h1]
theorem within_cut {rest rest' : List UInt8} {r n : Int} {out : List Int} (hc : Cut rest r rest') :
    (48 ≤ r ∧ r ≤ 57 → inums rest (.within n out) = if 999999999 < 10 * n + (r - 48) then none else inums rest' (.within (10 * n + (r - 48)) out)) ∧ (¬ (48 ≤ r ∧ r ≤ 57) → inums rest (.within n out) = bhd r rest' (out ++ [n])) := by
  unfold bhd
  cases rest with
  | nil =>
    simp [Cut] at hc
    exact ⟨fun h => by omega, fun h => by simp [hc, inums]⟩
  | cons c t =>
    rcases hc.2 with ⟨g1, g2, g3⟩ | ⟨g1, g2, _⟩
    · subst g3
      refine ⟨fun h => ?_, fun h => ?_⟩
      · have hd : isD c = true := by simp [isD]; omega
        have hg : dg c = r - 48 := by unfold dg; omega
        simp [inums, hd, hg]
      · have hd : isD c = false := by simp [isD]; omega
        by_cases h3 : c = 32
        · subst h3
          have : r = 32 := by simpa using g2
          simp [inums, hd, this]
        · have h32 : r ≠ 32 := fun e => h3 (UInt8.toNat_inj.1 (by simp; omega))
          have h1 : r ≠ -1 := by omega
          simp [inums, hd, h3, h32, h1]
    · have hd : isD c = false := by simp [isD]; omega
      have h3 : c ≠ 32 := fun e => by rw [e] at g1; simp at g1
      have h32 : r ≠ 32 := by omega
      have h1 : r ≠ -1 := by omega
      exact ⟨fun h => by omega, fun h => by simp [inums, hd, h3, h32, h1]⟩

end Go.Proofs.YticckgmkhgnmfaaDoor

/-
  A scope in which the run jumps to several labels: what holds at each label's jumps, and a measure that each pass from a label lowers.
-/
set_option linter.unusedVariables false
set_option linter.unusedSimpArgs false
namespace Go.Proofs.YticckgmkhgnmfaaDoor
open Go

/-- As Q; by a goto to label l: J l. -/
def jumps (J : Nat → Act → World → Prop) (Q : Exit → Act → World → Prop) : Exit → Act → World → Prop
  | .goto l, a, w => J l a w
  | e, a, w => Q e a w
section
variable {P : Program} {a : Act} {w : World} {Q : Exit → Act → World → Prop}
theorem jumps_normal (J : Nat → Act → World → Prop) : jumps J Q .normal a w = Q .normal a w := rfl
theorem jumps_exit (J : Nat → Act → World → Prop) (id : Nat) : jumps J Q (.exit id) a w = Q (.exit id) a w := rfl
theorem jumps_ret (J : Nat → Act → World → Prop) : jumps J Q .ret a w = Q .ret a w := rfl
theorem jumps_goto (J : Nat → Act → World → Prop) (l : Nat) : jumps J Q (.goto l) a w = J l a w := rfl
theorem wp_mono' {c : Code} {Q' : Exit → Act → World → Prop} (h : ∀ e a w, Q e a w → Q' e a w) (hc : c.wp P Q a w) : c.wp P Q' a w := fun b k cs =>
  let ⟨e, a₁, w₁, hq, harr⟩ := hc b k cs
  ⟨e, a₁, w₁, h _ _ _ hq, harr⟩
theorem jumps_mono {J J' : Nat → Act → World → Prop} (h : ∀ l a w, J l a w → J' l a w) : ∀ e a w, jumps J Q e a w → jumps J' Q e a w
  | .goto l, a, w, hq => h l a w hq
  | .normal, _, _, hq => hq
  | .exit _, _, _, hq => hq
  | .ret, _, _, hq => hq
  | .panic _, _, _, hq => hq
  | .outgrown, _, _, hq => hq
theorem wp_scope_many {c : Code} (J : Nat → Act → World → Prop) (μ : Nat → Act → World → Nat) (R : Nat → Code) (hf : ∀ l a w, J l a w → findLabel c l = some (R l))
    (first : c.wp P (jumps J Q) a w)
    (pass : ∀ l a w, J l a w → (R l).wp P (jumps (fun l' a' w' => J l' a' w' ∧ μ l' a' w' < μ l a w) Q) a w) : (Code.scope c).wp P Q a w := by
  intro b k cs
  have hg : ∀ l, findLabel c l = some (R l) → gotoIn l (.inScope c :: k) = some (.code (R l) :: .inScope c :: k) := fun l hf => by simp [gotoIn, hf]
  have key : ∀ n l a w, μ l a w = n → J l a w → ∃ e a' w', Q e a' w' ∧ Arrives P (lone (b.at a (.code (R l) :: .inScope c :: k)) cs w) b k cs e a' w' := by
    intro n
    induction n using Nat.strongRecOn with
    | _ n ih =>
      intro l a w hn hJ
      obtain ⟨e, a₁, w₁, hq, harr⟩ := pass l a w hJ b (.inScope c :: k) cs
      cases e with
      | normal => exact ⟨.normal, a₁, w₁, hq, Steps.trans harr (.one step_inScope)⟩
      | exit id => exact ⟨.exit id, a₁, w₁, hq, fun k' hk => harr k' (by simp [exitTo, hk])⟩
      | goto l' =>
        obtain ⟨hJ', hlt⟩ := hq
        obtain ⟨e₂, a₂, w₂, hq₂, harr₂⟩ := ih _ (by omega) l' a₁ w₁ rfl hJ'
        exact ⟨e₂, a₂, w₂, hq₂, .of_steps (harr _ (hg l' (hf l' a₁ w₁ hJ'))) harr₂⟩
      | ret => exact ⟨_, a₁, w₁, hq, harr⟩
      | panic ch => exact ⟨_, a₁, w₁, hq, harr⟩
      | outgrown => exact ⟨_, a₁, w₁, hq, harr⟩
  obtain ⟨e, a₁, w₁, hq, harr⟩ := first b (.inScope c :: k) cs
  cases e with
  | normal => exact ⟨.normal, a₁, w₁, hq, .head step_scope (Steps.trans harr (.one step_inScope))⟩
  | exit id => exact ⟨.exit id, a₁, w₁, hq, fun k' hk => .head step_scope (harr k' (by simp [exitTo, hk]))⟩
  | goto l' =>
    have hJ' : J l' a₁ w₁ := hq
    obtain ⟨e₂, a₂, w₂, hq₂, harr₂⟩ := key _ l' a₁ w₁ rfl hJ'
    exact ⟨e₂, a₂, w₂, hq₂, .of_steps (.head step_scope (harr _ (hg l' (hf l' a₁ w₁ hJ')))) harr₂⟩
  | ret => exact ⟨_, a₁, w₁, hq, .of_steps (.one step_scope) harr⟩
  | panic ch => exact ⟨_, a₁, w₁, hq, .of_steps (.one step_scope) harr⟩
  | outgrown => exact ⟨_, a₁, w₁, hq, .of_steps (.one step_scope) harr⟩
/-- Five labels' facts in one. -/
def lab5 (J0 J1 J2 J3 J4 : Act → World → Prop) : Nat → Act → World → Prop
  | 0 => J0
  | 1 => J1
  | 2 => J2
  | 3 => J3
  | 4 => J4
  | _ => fun _ _ => False
def cod5 (R0 R1 R2 R3 R4 : Code) : Nat → Code
  | 0 => R0
  | 1 => R1
  | 2 => R2
  | 3 => R3
  | _ => R4
/-- What a pass from a label owes: a fact at each jump, and a lower measure. -/
def owes (J : Nat → Act → World → Prop) (μ : Nat → Act → World → Nat) (n : Nat) (l' : Nat) (a' : Act) (w' : World) : Prop := J l' a' w' ∧ μ l' a' w' < n
theorem owes_mono {J : Nat → Act → World → Prop} {μ : Nat → Act → World → Nat} {n m : Nat} (h : n ≤ m) : ∀ l a w, owes J μ n l a w → owes J μ m l a w := fun _ _ _ ⟨h1, h2⟩ => ⟨h1, Nat.lt_of_lt_of_le h2 h⟩
theorem pass_on {c : Code} {J : Nat → Act → World → Prop} {μ : Nat → Act → World → Nat} {n m : Nat} (h : n ≤ m) (hc : c.wp P (jumps (owes J μ n) Q) a w) : c.wp P (jumps (owes J μ m) Q) a w := wp_mono' (jumps_mono (owes_mono h)) hc
theorem pass_in {c : Code} {J : Nat → Act → World → Prop} {μ : Nat → Act → World → Nat} {n : Nat} (hc : c.wp P (jumps (owes J μ n) Q) a w) : c.wp P (jumps J Q) a w := wp_mono' (jumps_mono (fun _ _ _ h => h.1)) hc
/-- A scope of five labels: 2 is the last in the text, ahead of it 3, 4, 1, 0: each pass may go on into the next one's text. -/
theorem wp_scope5 {c R0 R1 R2 R3 R4 : Code} (f0 : findLabel c 0 = some (Code.skip.seq R0)) (f1 : findLabel c 1 = some (Code.skip.seq R1)) (f2 : findLabel c 2 = some (Code.skip.seq R2)) (f3 : findLabel c 3 = some (Code.skip.seq R3)) (f4 : findLabel c 4 = some (Code.skip.seq R4))
    (J0 J1 J2 J3 J4 : Act → World → Prop) (μ : Nat → Act → World → Nat)
    (p2 : ∀ a w, J2 a w → R2.wp P (jumps (owes (lab5 J0 J1 J2 J3 J4) μ (μ 2 a w)) Q) a w)
    (p3 : (∀ a w, J2 a w → R2.wp P (jumps (owes (lab5 J0 J1 J2 J3 J4) μ (μ 2 a w)) Q) a w) → ∀ a w, J3 a w → R3.wp P (jumps (owes (lab5 J0 J1 J2 J3 J4) μ (μ 3 a w)) Q) a w)
    (p4 : (∀ a w, J3 a w → R3.wp P (jumps (owes (lab5 J0 J1 J2 J3 J4) μ (μ 3 a w)) Q) a w) → ∀ a w, J4 a w → R4.wp P (jumps (owes (lab5 J0 J1 J2 J3 J4) μ (μ 4 a w)) Q) a w)
    (p1 : (∀ a w, J4 a w → R4.wp P (jumps (owes (lab5 J0 J1 J2 J3 J4) μ (μ 4 a w)) Q) a w) → ∀ a w, J1 a w → R1.wp P (jumps (owes (lab5 J0 J1 J2 J3 J4) μ (μ 1 a w)) Q) a w)
    (p0 : ∀ a w, J0 a w → R0.wp P (jumps (owes (lab5 J0 J1 J2 J3 J4) μ (μ 0 a w)) Q) a w)
    (first : (∀ a w, J0 a w → R0.wp P (jumps (owes (lab5 J0 J1 J2 J3 J4) μ (μ 0 a w)) Q) a w) → c.wp P (jumps (lab5 J0 J1 J2 J3 J4) Q) a w) : (Code.scope c).wp P Q a w := by
  refine wp_scope_many (lab5 J0 J1 J2 J3 J4) μ (cod5 (Code.skip.seq R0) (Code.skip.seq R1) (Code.skip.seq R2) (Code.skip.seq R3) (Code.skip.seq R4)) (fun l a w h => ?_) (first p0) (fun l a w h => ?_)
  · match l, h with
    | 0, _ => exact f0
    | 1, _ => exact f1
    | 2, _ => exact f2
    | 3, _ => exact f3
    | 4, _ => exact f4
    | _ + 5, h => exact h.elim
  · match l, h with
    | 0, h => exact wp_seq (wp_skip (p0 a w h))
    | 1, h => exact wp_seq (wp_skip (p1 (p4 (p3 p2)) a w h))
    | 2, h => exact wp_seq (wp_skip (p2 a w h))
    | 3, h => exact wp_seq (wp_skip (p3 p2 a w h))
    | 4, h => exact wp_seq (wp_skip (p4 (p3 p2) a w h))
    | _ + 5, h => exact h.elim
end

end Go.Proofs.YticckgmkhgnmfaaDoor

/-
  A list of numbers of the call's own, or none yet, that grows by one.
-/
set_option linter.unusedVariables false
set_option linter.unusedSimpArgs false
namespace Go.Proofs.YticckgmkhgnmfaaDoor
open Go.RowKit

/-- n numbers behind a slice of the call's own, or a slice that is nil. -/
def OwnE (w : World) (base : Nat) (go : Option Addr) (n cap : Nat) (f : Nat → Int) : Prop := w.ownsRow base 2 1 (.slice go n cap) n (icells f n)
theorem OwnE.nil (w : World) (base : Nat) (f : Nat → Int) : OwnE w base none 0 0 f := ⟨by simp [icells], .inl ⟨rfl, rfl⟩⟩
theorem OwnE.at {w : World} {base n cap x : Nat} {go : Option Addr} {f : Nat → Int} (h : OwnE w base go n cap f) (e : (Value.slice go n cap).ownBlock = some x) : base ≤ x ∧ x < w.heap.size := World.ownsRow.lt h x e
theorem OwnE.of_block {w w' : World} {base n cap : Nat} {go : Option Addr} {f : Nat → Int} (h : OwnE w base go n cap f) (e : ∀ x, (Value.slice go n cap).ownBlock = some x → w'.heap[x]? = w.heap[x]?) : OwnE w' base go n cap f := by
  refine ⟨h.1, ?_⟩
  rcases h.2 with hn | ⟨g', cap', cur, hv, hb', hgg, rest⟩
  · exact .inl hn
  · have e2 := e g' (by rw [hv]; rfl)
    exact .inr ⟨g', cap', cur, hv, hb', e2.trans hgg, rest⟩
theorem OwnE.next {w w' : World} {base n cap : Nat} {go : Option Addr} {f : Nat → Int} (h : OwnE w base go n cap f) (hb : Below w.heap.size w w') : OwnE w' base go n cap f := h.of_block (fun x e => hb.block x (h.at e).2)
theorem OwnE.grown {w w' : World} {base n cap : Nat} {go : Option Addr} {f : Nat → Int} {row : Option Nat} (h : OwnE w base go n cap f) (hg : w.grownBy w' row) (hne : ∀ x, (Value.slice go n cap).ownBlock = some x → row ≠ some x) : OwnE w' base go n cap f := h.of_block (fun x e => hg.block x (h.at e).2 (fun q => hne x e q.symm))
theorem OwnE.has {w : World} {base n cap : Nat} {go : Option Addr} {f : Nat → Int} (h : OwnE w base go n cap f) (hn : 0 < n) : ∃ g, go = some ⟨g, 0, none⟩ ∧ base ≤ g ∧ IHas w g n f := by
  have h' := h
  obtain ⟨hl, h0 | ⟨g', cap', cur, hv, hb, hh, h1, h2, h3, h4⟩⟩ := h
  · omega
  · simp at hv
    obtain ⟨rfl, rfl⟩ := hv
    refine ⟨g', rfl, hb, cur, hh, by omega, fun j hj => ?_⟩
    have : (cur.toList.take (n * 1))[j]? = (icells f n)[j]? := by rw [h4]
    rw [List.getElem?_take_of_lt (by omega), icells_at hj] at this
    simpa using this
/-- The room of a list of numbers is what its slice says. -/
def Cap (w : World) (b cap : Nat) : Prop := ∃ cur : Array Value, w.heap[b]? = some (.cells cur 2 (0, 0)) ∧ cap ≤ maxLen ∧ cur.size = cap
theorem Cap.of_block {w w' : World} {b cap : Nat} (h : Cap w b cap) (e : w'.heap[b]? = w.heap[b]?) : Cap w' b cap := by
  obtain ⟨c, h1, h2, h3⟩ := h
  exact ⟨c, e.trans h1, h2, h3⟩
theorem Cap.lt {w : World} {b cap : Nat} (h : Cap w b cap) : b < w.heap.size := by
  obtain ⟨c, h1, h2, h3⟩ := h
  exact (Array.getElem?_eq_some_iff.1 h1).1
theorem Cap.set {w : World} {b cap : Nat} (h : Cap w b cap) (j : Nat) (v : Value) : Cap (w.setCell ⟨b, j, none⟩ v) b cap := by
  obtain ⟨c, h1, h2, h3⟩ := h
  exact ⟨c.setIfInBounds j v, by simp [World.setCell, Array.getElem?_modify, h1], h2, by simpa using h3⟩
theorem Cap.own {w : World} {b n cap base : Nat} {f : Nat → Int} (h : Cap w b cap) (hi : IHas w b n f) (hb : base ≤ b) : OwnE w base (some ⟨b, 0, none⟩) n cap f := by
  obtain ⟨c, h1, h2, h3⟩ := h
  obtain ⟨d, g1, g2, g3⟩ := hi
  rw [h1] at g1
  simp at g1
  subst g1
  refine ⟨by simp [icells], .inr ⟨b, cap, c, rfl, hb, h1, by omega, h2, by omega, ?_⟩⟩
  apply List.ext_getElem?
  intro j
  by_cases hj : j < n
  · rw [List.getElem?_take_of_lt (by omega), icells_at hj]
    simpa using g3 j hj
  · rw [List.getElem?_eq_none (by simp; omega), List.getElem?_eq_none (by simp [icells]; omega)]
theorem OwnE.capAt {w : World} {base n cap g : Nat} {go : Option Addr} {f : Nat → Int} (h : OwnE w base go n cap f) (e : go = some ⟨g, 0, none⟩) : Cap w g cap := by
  obtain ⟨hl, h0 | ⟨g', cap', cur, hv, hb, hh, h1, h2, h3, h4⟩⟩ := h
  · rw [e] at h0; simp at h0
  · rw [e] at hv
    simp at hv
    obtain ⟨rfl, rfl⟩ := hv
    exact ⟨cur, hh, h2, by omega⟩
theorem OwnE.room {w : World} {base n cap g : Nat} {go : Option Addr} {f : Nat → Int} (h : OwnE w base go n cap f) (e : go = some ⟨g, 0, none⟩) : n ≤ cap := by
  obtain ⟨hl, h0 | ⟨g', cap', cur, hv, hb, hh, h1, h2, h3, h4⟩⟩ := h
  · rw [e] at h0; simp at h0
  · rw [e] at hv
    simp at hv
    obtain ⟨rfl, rfl⟩ := hv
    exact h1
theorem own_blk {ao : Option Addr} {n cap x : Nat} (e : (Value.slice ao n cap).ownBlock = some x) : ∃ a, ao = some a ∧ a.block = x := by
  cases ao with
  | none => simp [Value.ownBlock] at e
  | some a => exact ⟨a, rfl, by simpa [Value.ownBlock] using e⟩
theorem wp_append_own {o : Oper} {a : Act} {w : World} {K : Act → World → Prop} {Q : Exit → Act → World → Prop} (s x : Operand)
    (ho : o.op = .call { callee := .builtin .append, args := #[s, x], argTypes := #[49, 49] }) (base k gc : Nat) (go : Option Addr) (f : Nat → Int) (hs : a.eval s = .slice go k gc) (hown : OwnE w base go k gc f) (B : Nat) (hx : a.eval x = .slice (some ⟨B, 0, none⟩) 1 1)
    (hB : w.cell? ⟨B, 0, none⟩ = some (.int .i64 (f k))) (hk : k ≤ 100000000) (hbase : base ≤ w.heap.size)
    (h : ∀ g' gc' w', OwnE w' base (some ⟨g', 0, none⟩) (k + 1) gc' f → w.grownBy w' (Value.slice go k gc).ownBlock → ((Value.slice go k gc).ownBlock = some g' ∨ g' = w.heap.size) → K (a.put o.dst (.slice (some ⟨g', 0, none⟩) (k + 1) gc')) w') : o.wp Tryd.prog a w K Q := by
  obtain ⟨i0, hi0, hz0, hz1, hz2⟩ := info_parts Tryd.infoInt
  refine wp_append_lies w s x 49 ho base 2 i0 _ 1 8 Tryd.underlying49 hi0 hz0 hz1 hz2 rfl (by omega) _ k (icells f k) hs hown ⟨B, 0, none⟩ 1 1 [.int .i64 (f k)] hx rfl ?_ ?_ (by omega) (by unfold maxLen; omega) (by omega) hbase w.heap.size rfl ?_
  · intro j u hu
    match j, hu with
    | 0, hu => simp at hu; subst hu; exact hB
    | j + 1, hu => simp at hu
  · intro u hu
    simp at hu
    subst hu; rfl
  · intro g' gc' w' hown' hgrow hat _
    rw [icells_put (f k) (fun _ _ => rfl) rfl] at hown'
    exact h g' gc' w' hown' hgrow hat
theorem step_append_own {ops : Array Oper} {o : Oper} {a : Act} {w : World} {K : Act → World → Prop} {Q : Exit → Act → World → Prop} {E : Prop} (hgd : o.guard = none) (s x : Operand)
    (ho : o.op = .call { callee := .builtin .append, args := #[s, x], argTypes := #[49, 49] }) (base k gc : Nat) (go : Option Addr) (f : Nat → Int) (hs : a.eval s = .slice go k gc) (hown : OwnE w base go k gc f) (B : Nat) (hx : a.eval x = .slice (some ⟨B, 0, none⟩) 1 1)
    (hB : w.cell? ⟨B, 0, none⟩ = some (.int .i64 (f k))) (hk : k ≤ 100000000) (hbase : base ≤ w.heap.size)
    (h : ∀ g' gc' w', OwnE w' base (some ⟨g', 0, none⟩) (k + 1) gc' f → w.grownBy w' (Value.slice go k gc).ownBlock → ((Value.slice go k gc).ownBlock = some g' ∨ g' = w.heap.size) → K (a.put o.dst (.slice (some ⟨g', 0, none⟩) (k + 1) gc')) w') :
    if Region.wanted o (yielded ops a.tmps) = true then Oper.wp Tryd.prog o a w K Q else E := by
  have hw : Region.wanted o (yielded ops a.tmps) = true := by simp [Region.wanted, hgd]
  rw [if_pos hw]
  exact wp_append_own s x ho base k gc go f hs hown B hx hB hk hbase h

end Go.Proofs.YticckgmkhgnmfaaDoor

/-
  The document's numbers of a text: one number; all of them, in new memory.
-/
set_option linter.unusedVariables false
set_option linter.unusedSimpArgs false
namespace Go.Proofs.YticckgmkhgnmfaaDoor
open Go.RowKit
attribute [local go_sem ↓] Go.wp_at_zero Go.wp_at_succ

def ret2 (v : Option Int) : Value := .tuple #[.int .i64 (v.getD 0), .bool v.isSome]
theorem toL (s : ByteArray) (k : Nat) (h : k < s.size) : s.data.toList[k]? = some s[k] := by
  rw [List.getElem?_eq_getElem (by simpa using h)]
  rfl
theorem take_nx {s : ByteArray} {d : List UInt8} {o j : Nat} (HT : Hid (∀ j (h : o + j < s.size), d[j]? = some s[o + j])) (h : o + j < s.size) : d.take (j + 1) = d.take j ++ [s[o + j]] := by
  rw [List.take_add_one, HT.out j h]
  rfl
theorem take_nx0 {s : ByteArray} {d : List UInt8} {j : Nat} (HT : Hid (∀ j (h : j < s.size), d[j]? = some s[j])) (h : j < s.size) : d.take (j + 1) = d.take j ++ [s[j]] := by
  rw [List.take_add_one, HT.out j h]
  rfl
theorem drop_at (s : ByteArray) (o j : Nat) (h : o + j < s.size) : (s.data.toList.drop o)[j]? = some s[o + j] := by
  rw [List.getElem?_drop]
  exact toL s (o + j) h
theorem take_next (s : ByteArray) (o j : Nat) (h : o + j < s.size) : (s.data.toList.drop o).take (j + 1) = (s.data.toList.drop o).take j ++ [s[o + j]] := by
  rw [List.take_add_one, drop_at s o j h]
  rfl
theorem isD_iff {c : UInt8} : isD c = true ↔ 48 ≤ (c.toNat : Int) ∧ (c.toNat : Int) ≤ 57 := by simp [isD]; omega
theorem all_no {l : List UInt8} {j : Nat} {c : UInt8} (h : l[j]? = some c) (hc : isD c = false) : l.all isD = false := by
  rw [List.all_eq_false]
  exact ⟨c, List.mem_of_getElem? h, by simp [hc]⟩
theorem pow10_le {j : Nat} (h : j ≤ 9) : (10 : Int) ^ j ≤ 1000000000 := by
  have : j = 0 ∨ j = 1 ∨ j = 2 ∨ j = 3 ∨ j = 4 ∨ j = 5 ∨ j = 6 ∨ j = 7 ∨ j = 8 ∨ j = 9 := by omega
  rcases this with rfl | rfl | rfl | rfl | rfl | rfl | rfl | rfl | rfl | rfl <;> decide
theorem val_lt : ∀ (l : List UInt8) (n : Int), l.all isD = true → 0 ≤ n → l.foldl (fun n c => n * 10 + dg c) n < (n + 1) * (10 : Int) ^ l.length
  | [], n, _, _ => by simp; omega
  | c :: t, n, h, h0 => by
    simp at h
    have hd := dg_bd h.1
    have h2 := val_lt t (n * 10 + dg c) (by simpa using h.2) (by omega)
    simp only [List.foldl_cons, List.length_cons]
    have hp : (0 : Int) ≤ (10 : Int) ^ t.length := Int.pow_nonneg (by decide)
    have e2 : (n + 1) * (10 : Int) ^ (t.length + 1) = ((n + 1) * 10) * (10 : Int) ^ t.length := by rw [Int.pow_succ, Int.mul_comm ((10 : Int) ^ t.length) 10, ← Int.mul_assoc]
    have m2 : (n * 10 + dg c + 1) * (10 : Int) ^ t.length ≤ ((n + 1) * 10) * (10 : Int) ^ t.length := Int.mul_le_mul_of_nonneg_right (by omega) hp
    rw [e2]
    omega
theorem val_bd {l : List UInt8} (h : l.all isD = true) (hl : l.length ≤ 9) : 0 ≤ val l ∧ val l < 1000000000 := by
  have h1 := val_lt l 0 h (Int.le_refl _)
  have h2 := pow10_le hl
  have h0 := val_nonneg h
  unfold val at h0 ⊢
  omega
theorem ret_tup {a b : Option Int} (h : a = b) : Ending.returned (ret2 a) = .returned (ret2 b) := by rw [h]
set_option maxHeartbeats 2000000 in
set_option maxRecDepth 20000 in
theorem l1Number_neg (s : ByteArray) (hs : s.size ≤ 1048576) (hne : 0 < s.size) (h45 : s[0] = 45) (d : List UInt8) (HL : Hid (d.length = s.size - 1)) (HT : Hid (∀ j (h : 1 + j < s.size), d[j]? = some s[1 + j])) (w : World) :
    Calls Tryd.prog 79 #[.string s] w fun e w' => e = .returned (ret2 (numD true d)) ∧ w' = w := by
  have hse : s.toList.isEmpty = false := by
    rw [ByteArray.toList_eq, List.isEmpty_eq_false_iff]
    intro e
    have h0 : s.data.toList.length = 0 := by rw [e]; rfl
    have h9 : s.data.toList.length = s.size := by simp
    omega
  have hc0 : (s[0].toNat : Int) = 45 := by
    rw [h45]; rfl
  by_cases hsh : s.size - 1 < 1 ∨ 9 < s.size - 1
  · have hn : numD true d = none := by
      unfold numD
      rw [if_pos (by rw [HL.out]; omega)]
    rw [hn]
    rcases hsh with hsh | hsh
    · have h1 : (s.size : Int) - 1 < 1 := by omega
      go_enter Tryd.func79, Tryd.ntmps79
      go_wp2
      go_ret2
      exact ⟨rfl, rfl⟩
    · have h1 : ¬ (s.size : Int) - 1 < 1 := by omega
      have h2 : 9 < (s.size : Int) - 1 := by omega
      go_enter Tryd.func79, Tryd.ntmps79
      go_wp2
      go_ret2
      exact ⟨rfl, rfl⟩
  have h1 : ¬ (s.size : Int) - 1 < 1 := by omega
  have h2 : ¬ 9 < (s.size : Int) - 1 := by omega
  go_enter Tryd.func79, Tryd.ntmps79
  go_wp2
  go_loop [6, 7] (fun n k => ∃ j : Nat, 1 + j ≤ s.size ∧ k = .int .i64 (((1 + j : Nat)) : Int) ∧ (d.take j).all isD = true ∧ n = .int .i64 (val (d.take j))) (fun _ k => s.size - (intOf k).toNat)
  case atStart => exact ⟨0, by omega, rfl, by simp, by simp [val]⟩
  case round =>
    obtain ⟨j, hj, rfl, hall, rfl⟩ := hrel
    obtain ⟨v0, v1⟩ := val_bd hall (by rw [List.length_take, HL.out]; omega)
    have HA : Hid ((d.take j).all isD = true) := hall
    clear hall
    by_cases hlt : 1 + j < s.size
    · have hc : s[1 + j].toNat < 256 := s[1 + j].toNat_lt
      have hlt' : ((1 + j : Nat) : Int) < (s.size : Int) := by omega
      have hk0 : (0 : Int) ≤ ((1 + j : Nat) : Int) := by omega
      cases hd : isD s[1 + j] with
      | true =>
        obtain ⟨d1, d2⟩ := isD_iff.1 hd
        have e1 := take_nx HT hlt
        have HV : Hid (val (d.take (j + 1)) = val (d.take j) * 10 + ((s[1 + j].toNat : Int) - 48)) := by
          show _ = _
          rw [e1, val_snoc]
          rfl
        have HB : Hid ((d.take (j + 1)).all isD = true) := by
          show _ = _
          rw [e1]
          exact all_snoc.2 ⟨HA.out, hd⟩
        clear e1
        go_wp2
        go_round
        case rel => exact ⟨j + 1, by omega, by go_num, HB.out, by rw [HV.out]⟩
        case measure => simp [intOf]; omega
      | false =>
        have hn : numD true d = none := by
          unfold numD
          split
          · rfl
          rw [if_pos (all_no (HT.out j hlt) hd)]
        have HN : Hid (numD true d = none) := hn
        clear hn
        by_cases c1 : (s[1 + j].toNat : Int) < 48
        · go_wp2
          go_ret2
          exact ⟨by rw [HN.out]; rfl, rfl⟩
        · have c2 : 57 < (s[1 + j].toNat : Int) := by
            by_cases h : (s[1 + j].toNat : Int) ≤ 57
            · rw [isD_iff.2 ⟨by omega, h⟩] at hd
              cases hd
            · omega
          go_wp2
          go_ret2
          exact ⟨by rw [HN.out]; rfl, rfl⟩
    · have ht : d.take j = d := List.take_of_length_le (by rw [HL.out]; omega)
      have hh : d.head? = some s[1] := by
        rw [List.head?_eq_getElem?]
        exact HT.out 0 (by omega)
      have hall := HA.out
      rw [ht] at v0 v1 hall ⊢
      have HNN : Hid (numD true d = if s[1] = 48 ∧ (true = true ∨ 1 < s.size - 1) then none else some (if true = true then - val d else val d)) := by
        show _ = _
        unfold numD
        rw [if_neg (by rw [HL.out]; omega), if_neg (by rw [hall]; simp), hh, HL.out]
        simp
      have hlt' : ¬ ((1 + j : Nat) : Int) < (s.size : Int) := by omega
      have hc : s[1].toNat < 256 := s[1].toNat_lt
      clear ht HA hh hall
      by_cases h48 : s[1] = 48
      · have hz : (s[1].toNat : Int) = 48 := by rw [h48]; rfl
        go_wp2
        go_ret2
        exact ⟨by rw [HNN.out, if_pos (by simp [h48])]; rfl, rfl⟩
      · have hz : ¬ (s[1].toNat : Int) = 48 := fun e => h48 (UInt8.toNat_inj.1 (by simp; omega))
        have hz' : ((s[1].toNat : Int) == 48) = false := by simpa using hz
        go_wp2
        go_ret2
        exact ⟨by rw [HNN.out, if_neg (fun e => h48 e.1)]; rfl, rfl⟩
set_option maxHeartbeats 2000000 in
set_option maxRecDepth 20000 in
theorem l1Number_pos (s : ByteArray) (hs : s.size ≤ 1048576) (hne : 0 < s.size) (h45 : s[0] ≠ 45) (d : List UInt8) (HL : Hid (d.length = s.size - 0)) (HT : Hid (∀ j (h : j < s.size), d[j]? = some s[j])) (w : World) :
    Calls Tryd.prog 79 #[.string s] w fun e w' => e = .returned (ret2 (numD false d)) ∧ w' = w := by
  have hse : s.toList.isEmpty = false := by
    rw [ByteArray.toList_eq, List.isEmpty_eq_false_iff]
    intro e
    have h0 : s.data.toList.length = 0 := by rw [e]; rfl
    have h9 : s.data.toList.length = s.size := by simp
    omega
  have hc0 : (s[0].toNat : Int) ≠ 45 := by
    intro e; exact h45 (UInt8.toNat_inj.1 (by simp; omega))
  have hc0b : ((s[0].toNat : Int) == 45) = false := by simpa using hc0
  by_cases hsh : s.size - 0 < 1 ∨ 9 < s.size - 0
  · have hn : numD false d = none := by
      unfold numD
      rw [if_pos (by rw [HL.out]; omega)]
    rw [hn]
    rcases hsh with hsh | hsh
    · have h1 : (s.size : Int) < 1 := by omega
      go_enter Tryd.func79, Tryd.ntmps79
      go_wp2
      go_ret2
      exact ⟨rfl, rfl⟩
    · have h1 : ¬ (s.size : Int) < 1 := by omega
      have h2 : 9 < (s.size : Int) := by omega
      go_enter Tryd.func79, Tryd.ntmps79
      go_wp2
      go_ret2
      exact ⟨rfl, rfl⟩
  have h1 : ¬ (s.size : Int) < 1 := by omega
  have h2 : ¬ 9 < (s.size : Int) := by omega
  go_enter Tryd.func79, Tryd.ntmps79
  go_wp2
  go_loop [6, 7] (fun n k => ∃ j : Nat, j ≤ s.size ∧ k = .int .i64 (j : Int) ∧ (d.take j).all isD = true ∧ n = .int .i64 (val (d.take j))) (fun _ k => s.size - (intOf k).toNat)
  case atStart => exact ⟨0, by omega, rfl, by simp, by simp [val]⟩
  case round =>
    obtain ⟨j, hj, rfl, hall, rfl⟩ := hrel
    obtain ⟨v0, v1⟩ := val_bd hall (by rw [List.length_take, HL.out]; omega)
    have HA : Hid ((d.take j).all isD = true) := hall
    clear hall
    by_cases hlt : j < s.size
    · have hc : s[j].toNat < 256 := s[j].toNat_lt
      have hlt' : ((j : Nat) : Int) < (s.size : Int) := by omega
      have hk0 : (0 : Int) ≤ ((j : Nat) : Int) := by omega
      cases hd : isD s[j] with
      | true =>
        obtain ⟨d1, d2⟩ := isD_iff.1 hd
        have e1 := take_nx0 HT hlt
        have HV : Hid (val (d.take (j + 1)) = val (d.take j) * 10 + ((s[j].toNat : Int) - 48)) := by
          show _ = _
          rw [e1, val_snoc]
          rfl
        have HB : Hid ((d.take (j + 1)).all isD = true) := by
          show _ = _
          rw [e1]
          exact all_snoc.2 ⟨HA.out, hd⟩
        clear e1
        go_wp2
        go_round
        case rel => exact ⟨j + 1, by omega, by go_num, HB.out, by rw [HV.out]⟩
        case measure => simp [intOf]; omega
      | false =>
        have hn : numD false d = none := by
          unfold numD
          split
          · rfl
          rw [if_pos (all_no (HT.out j hlt) hd)]
        have HN : Hid (numD false d = none) := hn
        clear hn
        by_cases c1 : (s[j].toNat : Int) < 48
        · go_wp2
          go_ret2
          exact ⟨by rw [HN.out]; rfl, rfl⟩
        · have c2 : 57 < (s[j].toNat : Int) := by
            by_cases h : (s[j].toNat : Int) ≤ 57
            · rw [isD_iff.2 ⟨by omega, h⟩] at hd
              cases hd
            · omega
          go_wp2
          go_ret2
          exact ⟨by rw [HN.out]; rfl, rfl⟩
    · have ht : d.take j = d := List.take_of_length_le (by rw [HL.out]; omega)
      have hh : d.head? = some s[0] := by
        rw [List.head?_eq_getElem?]
        exact HT.out 0 (by omega)
      have hall := HA.out
      rw [ht] at v0 v1 hall ⊢
      have HNN : Hid (numD false d = if s[0] = 48 ∧ (false = true ∨ 1 < s.size - 0) then none else some (if false = true then - val d else val d)) := by
        show _ = _
        unfold numD
        rw [if_neg (by rw [HL.out]; omega), if_neg (by rw [hall]; simp), hh, HL.out]
        simp
      have hlt' : ¬ ((j : Nat) : Int) < (s.size : Int) := by omega
      have hc : s[0].toNat < 256 := s[0].toNat_lt
      clear ht HA hh hall
      by_cases h48 : s[0] = 48
      · have hz : (s[0].toNat : Int) = 48 := by rw [h48]; rfl
        by_cases hl1 : 1 < s.size
        · have hl1' : (1 : Int) < (s.size : Int) := by omega
          go_wp2
          go_ret2
          exact ⟨by rw [HNN.out, if_pos ⟨h48, .inr (by omega)⟩]; rfl, rfl⟩
        · have hl1' : ¬ (1 : Int) < (s.size : Int) := by omega
          go_wp2
          go_ret2
          exact ⟨by rw [HNN.out, if_neg (by rintro ⟨_, h | h⟩; cases h; omega)]; rfl, rfl⟩
      · have hz : ¬ (s[0].toNat : Int) = 48 := fun e => h48 (UInt8.toNat_inj.1 (by simp; omega))
        have hz' : ((s[0].toNat : Int) == 48) = false := by simpa using hz
        go_wp2
        go_ret2
        exact ⟨by rw [HNN.out, if_neg (fun e => h48 e.1)]; rfl, rfl⟩
theorem head0 (s : ByteArray) (h : 0 < s.size) : s.data.toList.head? = some s[0] := by
  rw [List.head?_eq_getElem?]
  exact toL s 0 h
theorem l1Number_any (s : ByteArray) (hs : s.size ≤ 1048576) (w : World) :
    Calls Tryd.prog 79 #[.string s] w fun e w' => e = .returned (ret2 (num1 s.data.toList)) ∧ w' = w := by
  by_cases hne : 0 < s.size
  · by_cases h45 : s[0] = 45
    · have e : num1 s.data.toList = numD true (s.data.toList.drop 1) := by
        unfold num1
        rw [if_pos (by rw [head0 s hne, h45]), ← List.drop_one]
      rw [e]
      exact l1Number_neg s hs hne h45 _ (by show _ = _; simp) (fun j h => drop_at s 1 j h) w
    · have e : num1 s.data.toList = numD false (s.data.toList.drop 0) := by
        unfold num1
        rw [if_neg (by rw [head0 s hne]; simpa using h45), List.drop_zero]
      rw [e]
      exact l1Number_pos s hs hne h45 _ (by show _ = _; simp) (fun j h => by rw [List.drop_zero]; exact toL s j h) w
  · have hz : s.size = 0 := by omega
    have hl : s.data.toList = [] := List.eq_nil_of_length_eq_zero (by simpa using hz)
    have hse : s = (⟨#[]⟩ : ByteArray) := by
      apply ByteArray.ext
      apply Array.ext'
      simpa using hl
    rw [hl, num1_nil]
    subst hse
    go_enter Tryd.func79, Tryd.ntmps79
    go_wp2
    go_ret2
    exact ⟨rfl, rfl⟩

end Go.Proofs.YticckgmkhgnmfaaDoor
