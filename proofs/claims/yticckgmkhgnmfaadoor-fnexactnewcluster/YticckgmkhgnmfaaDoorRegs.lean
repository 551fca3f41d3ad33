/-
  Regions that draw their order: short forms for the contracts of their operations.
-/
import Derived.Test.YticckgmkhgnmfaaDoorOrders
import Derived.Test.YticckgmkhgnmfaaDoorGenL
import Derived.Test.YticckgmkhgnmfaaDoorCore
import Derived.Test.YticckgmkhgnmfaaDoorBox
import Derived.ArgAppend
set_option linter.unusedVariables false
set_option linter.unusedSimpArgs false
namespace Go.Proofs.YticckgmkhgnmfaaDoor
open Go Go.RowKit

/-- All that lay stands. -/
def RB (u v : World) : Prop := Below u.heap.size u v
theorem RB.refl (w : World) : RB w w := Below.refl _ _
theorem RB.trans (u v w : World) (h : RB u v) (k : RB v w) : RB u w := below_next h (Nat.le_refl _) k
theorem RB.alloc (w : World) (o : Obj) : RB w (w.alloc o) := (Below.refl w.heap.size w).alloc (Nat.le_refl _) o
/-- A value that is known. -/
def isV (u : Value) (v : Value) (_ : World) : Prop := v = u
theorem isV.rb {u : Value} (v : Value) (w w' : World) (h : isV u v w) (_ : RB w w') : isV u v w' := h
theorem oneAll {vs : List Value} (h : (vs.all fun v => v.oneCell') = true) : ∀ v ∈ vs, v.oneCell' = true := by simpa using h
theorem oneV {v : Value} (h : v.oneCell' = true) : v.oneCell' = true := h
theorem below_row {w W W' : World} {row : Option Nat} (h : Below w.heap.size w W) (hg : W.grownBy W' row) (hx : ∀ x, row = some x → w.heap.size ≤ x) : Below w.heap.size w W' :=
  ⟨hg.os.trans h.os, hg.tape.trans h.tape, hg.output.trans h.output, Nat.le_trans h.size hg.size, fun k hk => (hg.block k (Nat.lt_of_lt_of_le hk h.size) (fun q => by have := hx k q.symm; omega)).trans (h.block k hk)⟩
section
variable {P : Program} {ops : Array Oper}
theorem EvOk.get {a0 : Act} {o : Oper} {v : Nat → Value} {ev : Operand → Value} {Pr : Nat → Value → World → Prop} {w : World} (E : EvOk ops a0 o v ev) (pr : ∀ j, j < ops.size → waitsB o j = true → Pr j (v j) w) (j d : Nat)
    (h1 : (ops[j]?).bind (·.dst) = some d := by rfl) (h2 : waitsB o j = true := by kernel_rfl) (h3 : Nat.blt d a0.tmps.size = true := by kernel_rfl) (h4 : Nat.blt j ops.size = true := by kernel_rfl) : Pr j (ev (.tmp d)) w := by
  rw [E.at_ j d h1 h2 (Nat.le_of_ble_eq_true h3)]
  exact pr j (Nat.le_of_ble_eq_true h4) h2
theorem EvOk.was {a0 : Act} {o : Oper} {v : Nat → Value} {ev : Operand → Value} (E : EvOk ops a0 o v ev) (d : Nat) (u : Value) (h : noDstB ops d = true := by kernel_rfl) (h2 : a0.eval (.tmp d) = u := by rfl) : ev (.tmp d) = u := (E.old d h).trans h2
/-- An operation that reads. -/
theorem OpOk.get {a0 : Act} {w0 : World} {R : World → World → Prop} {Pr : Nat → Value → World → Prop} {i : Nat} {o : Oper} (hR : ∀ w, R w w) (u : Value) (hp : ∀ w, Pr i u w)
    (h : ∀ (ev : Operand → Value) (w : World) (v : Nat → Value), R w0 w → EvOk ops a0 o v ev → (∀ j, j < ops.size → waitsB o j = true → Pr j (v j) w) → (execOp ev o).run P w = .ok (.value u) w) (hg : o.guard = none := by rfl) : OpOk P ops a0 w0 R Pr i o :=
  OpOk.val hg fun ev w v hR' E pr => ⟨u, w, h ev w v hR' E pr, hR w, hp w⟩
theorem exec_append {o : Oper} {ev : Operand → Value} {s x : Operand} {t : TypeId} {v1 v2 u : Value} {w w' : World} (ho : o.op = .call { callee := .builtin .append, args := #[s, x], argTypes := #[t, t] }) (hs : ev s = v1) (hx : ev x = v2) (hr : (Builtin.append_ #[t, t] o.type #[v1, v2]).run P w = .ok u w') : (execOp ev o).run P w = .ok (.value u) w' := by
  unfold execOp
  simp only [ho, resolve, invoke, builtin, Sem.run_bind, Sem.run_pure, Result.andThen_ok, List.map_toArray, List.map_cons, List.map_nil, hs, hx, hr]
/-- A struct stored into its box. -/
theorem exec_box {o : Oper} {ev : Operand → Value} {ty : TypeId} {x y : Operand} {b : Nat} {t : TypeId} {f : Nat → Value} {W : World} (vs : List Value) (ho : o.op = .store ty x y) (hx : ev x = .pointer (some ⟨b, 0, none⟩)) (hy : ev y = .agg vs.toArray) (hb : VHas W b t vs.length f) (hi : (P.info? ty).map (·.size) = some vs.length) (hv : ∀ v ∈ vs, v.oneCell' = true) : (execOp ev o).run P W = .ok .skip (setL W b 0 vs) := by
  have hrun := run_storeBox (P := P) (ty := ty) vs hb hi hv
  unfold execOp
  simp only [ho, hx, hy, Instr.storeAt, Instr.sureAddr, Sem.run_bind, Sem.run_pure, Result.andThen_ok, hrun]
/-- What the table says of an element's type. -/
structure ElI (P : Program) (t e : TypeId) (size bytes : Nat) : Prop where
  und : P.underlying t = some (.slice e)
  inf : ∃ i z, P.info? e = some i ∧ i.zero = some z ∧ i.size = size ∧ i.bytes = bytes ∧ z.cells.size = size
  pos : 0 < size
  few : bytes ≤ 1000
/-- append([]T{}, list...): new memory. -/
theorem run_cat0 {t e : TypeId} {size bytes : Nat} (E : ElI P t e size bytes) (w : World) (ty : TypeId) (base g : Nat) (f : Nat → Value) (h0 : GOwn w base e size (some ⟨g, 0, none⟩) 0 0 f) (so : Option Addr) (m c : Nat) (hr : GRow w so (m * size) f) (h1 : ∀ j, (f j).oneCell' = true) (hm : m ≤ 1048576) (hbase : base ≤ w.heap.size) :
    ∃ ao' cap' w', (Builtin.append_ #[t, t] ty #[.slice (some ⟨g, 0, none⟩) 0 0, .slice so m c]).run P w = .ok (.slice ao' m cap') w' ∧ GOwn w' base e size ao' m cap' f ∧ RB w w' := by
  obtain ⟨und, ⟨i, z, hi, hz, hs, hb, hzs⟩, pos, few⟩ := E
  rcases Nat.eq_zero_or_pos m with h9 | h9
  · subst h9
    refine ⟨some ⟨g, 0, none⟩, 0, w, ?_, h0, RB.refl _⟩
    cases so <;> simp [Builtin.append_, run_underlying und, sizeOf, typeInfo, hi, Builtin.lenOf, Builtin.firstCells, storeCells, loadCells, loadCellsFrom]
  · have hp : 0 < m * size := Nat.mul_pos h9 pos
    obtain ⟨b, off, e', _⟩ := hr hp
    subst e'
    obtain ⟨v', w', h2, h3, h4⟩ := run_append_arg_grows (P := P) w t ty e i z size bytes und hi hz hs hb hzs pos ⟨g, 0, none⟩ 0 0 [] (by simp) (fun j u hu => by simp at hu) ⟨b, off, none⟩ m c (gCells f (m * size)) (gCells_len _ _) (GRow.news hr) (by omega) (by unfold maxLen; omega) (by
      have : (0 + m) * bytes ≤ 1048576 * 1000 := Nat.mul_le_mul (by omega) few
      omega)
    rw [Nat.zero_add, List.nil_append] at h3
    obtain ⟨g', cap', e1, _, _⟩ := h3.form h9
    subst e1
    exact ⟨some ⟨g', 0, none⟩, cap', w', h2, GOwn.from h3 hbase, ⟨h4.os, h4.tape, h4.output, h4.size, fun k hk => h4.block k hk (by simp)⟩⟩
/-- A list of one's own, as a value. -/
def LO (base : Nat) (t : TypeId) (size n : Nat) (f : Nat → Value) (v : Value) (w : World) : Prop := ∃ ao cap, v = .slice ao n cap ∧ GOwn w base t size ao n cap f
theorem LO.rb {base : Nat} {t : TypeId} {size n : Nat} {f : Nat → Value} (v : Value) (w w' : World) (h : LO base t size n f v w) (hb : RB w w') : LO base t size n f v w' := by
  obtain ⟨ao, cap, e, h⟩ := h
  exact ⟨ao, cap, e, h.next hb⟩
/-- An empty list of one's own, of no room. -/
def LE (base : Nat) (t : TypeId) (v : Value) (w : World) : Prop := ∃ g, v = .slice (some ⟨g, 0, none⟩) 0 0 ∧ Typed w g t ∧ base ≤ g ∧ ∀ size f, GOwn w base t size (some ⟨g, 0, none⟩) 0 0 f
theorem LE.rb {base : Nat} {t : TypeId} (v : Value) (w w' : World) (h : LE base t v w) (hb : RB w w') : LE base t v w' := by
  obtain ⟨g, e, ht, hg, h⟩ := h
  refine ⟨g, e, ?_, hg, fun size f => (h size f).next hb⟩
  obtain ⟨cs, z, h1⟩ := ht
  have hlt := (Array.getElem?_eq_some_iff.1 h1).1
  exact ⟨cs, z, by rw [hb.block g hlt]; exact h1⟩
theorem LE.new (w : World) (base : Nat) (t : TypeId) (hb : base ≤ w.heap.size) : LE base t (.slice (some ⟨w.heap.size, 0, none⟩) 0 0) (w.alloc (.cells #[] t)) :=
  ⟨w.heap.size, rfl, ⟨#[], (0, 0), Go.Deep.blk_alloc_new _ _⟩, hb, fun size f => (GOwn.empty w t size f).from hb⟩
/-- append([]T{}, list...), an operation of a region. -/
theorem OpOk.cat {a0 : Act} {w0 : World} {Pr : Nat → Value → World → Prop} {i : Nat} {o : Oper} {t e : TypeId} {size bytes : Nat} (El : ElI P t e size bytes) (base : Nat) (so : Option Addr) (m c : Nat) (f : Nat → Value) (h1 : ∀ j, (f j).oneCell' = true) (hm : m ≤ 1048576) (hbase : base ≤ w0.heap.size)
    (j1 d1 j2 d2 : Nat) (ho : o.op = .call { callee := .builtin .append, args := #[.tmp d1, .tmp d2], argTypes := #[t, t] })
    (hE : ∀ v w, Pr j1 v w → LE base e v w) (hX : ∀ v w, Pr j2 v w → v = .slice so m c) (hr : ∀ w, RB w0 w → GRow w so (m * size) f) (hP : ∀ v w, LO base e size m f v w → Pr i v w)
    (hg : o.guard = none := by rfl) (q1 : (ops[j1]?).bind (·.dst) = some d1 := by rfl) (q2 : waitsB o j1 = true := by kernel_rfl) (q3 : Nat.blt d1 a0.tmps.size = true := by kernel_rfl) (q4 : Nat.blt j1 ops.size = true := by kernel_rfl)
    (p1 : (ops[j2]?).bind (·.dst) = some d2 := by rfl) (p2 : waitsB o j2 = true := by kernel_rfl) (p3 : Nat.blt d2 a0.tmps.size = true := by kernel_rfl) (p4 : Nat.blt j2 ops.size = true := by kernel_rfl) : OpOk P ops a0 w0 RB Pr i o := by
  refine OpOk.val hg fun ev w v hR E pr => ?_
  obtain ⟨g, e1, _, _, h0⟩ := hE _ _ (E.get pr j1 d1 q1 q2 q3 q4)
  have e2 := hX _ _ (E.get pr j2 d2 p1 p2 p3 p4)
  obtain ⟨ao', cap', w', hrun, hown, hb⟩ := run_cat0 El w o.type base g f (h0 size f) so m c (hr w hR) h1 hm (Nat.le_trans hbase hR.size)
  exact ⟨_, w', exec_append ho e1 e2 hrun, hb, hP _ _ ⟨ao', cap', rfl, hown⟩⟩
/-- One cell stored into a box. -/
theorem exec_cell {o : Oper} {ev : Operand → Value} {ty : TypeId} {x y : Operand} {b k n : Nat} {t : TypeId} {f : Nat → Value} {W : World} {v : Value} (ho : o.op = .store ty x y) (hx : ev x = .pointer (some ⟨b, k, none⟩)) (hy : ev y = v) (hb : VHas W b t n f) (hk : k < n) (hi : (P.info? ty).map (·.size) = some 1) (hvc : v.cells = #[v]) (hv : v.oneCell' = true) : (execOp ev o).run P W = .ok .skip (W.setCell ⟨b, k, none⟩ v) := by
  have c1 := hb.cell hk
  have z1 := hb.frozen k
  have hrun : (storeVar ty ⟨b, k, none⟩ v).run P W = .ok () (W.setCell ⟨b, k, none⟩ v) := by
    cases hq : P.info? ty with
    | none => simp [hq] at hi
    | some i =>
      have hs : i.size = 1 := by simpa [hq] using hi
      have e1 : (⟨b, k, none⟩ : Addr).add 0 = ⟨b, k, none⟩ := by rw [Addr.add_mid]; rfl
      have hst : (store (⟨b, k, none⟩ : Addr) v).run P W = .ok () (W.setCell ⟨b, k, none⟩ v) := by
        rw [run_store P W _ v _ hv, c1]
        simp [z1]
      simp [storeVar, sizeOf, typeInfo, hq, hvc, hs, storeCells, e1, hst]
  unfold execOp
  simp only [ho, hx, hy, Instr.storeAt, Instr.sureAddr, Sem.run_bind, Sem.run_pure, Result.andThen_ok, hrun]
/-- append(own, list...). -/
theorem run_app {t e : TypeId} {size bytes : Nat} (E : ElI P t e size bytes) (w : World) (ty : TypeId) (base : Nat) (f : Nat → Value) (ao : Option Addr) (n cap : Nat) (h0 : GOwn w base e size ao n cap f) (so : Option Addr) (m c : Nat) (g : Nat → Value) (hr : GRow w so (m * size) g) (h1 : ∀ j, (g j).oneCell' = true) (hn : n + m ≤ 100000000) (hbase : base ≤ w.heap.size) :
    ∃ ao' cap' w', (Builtin.append_ #[t, t] ty #[.slice ao n cap, .slice so m c]).run P w = .ok (.slice ao' (n + m) cap') w' ∧ GOwn w' base e size ao' (n + m) cap' (fun j => if j < n * size then f j else g (j - n * size)) ∧ w.grownBy w' (Value.slice ao n cap).ownBlock ∧ ((Value.slice ao' (n + m) cap').ownBlock = (Value.slice ao n cap).ownBlock ∨ (Value.slice ao' (n + m) cap').ownBlock = some w.heap.size) := by
  obtain ⟨und, ⟨i, z, hi, hz, hs, hb, hzs⟩, pos, few⟩ := E
  rcases Nat.eq_zero_or_pos m with h9 | h9
  · subst h9
    refine ⟨ao, cap, w, ?_, h0.congr (fun j hj => by rw [if_pos hj]), ⟨rfl, rfl, rfl, Nat.le_refl _, fun _ _ _ => rfl⟩, .inl rfl⟩
    have hnc : n ≤ cap := by
      rcases h0.2 with ⟨h2, h3⟩ | ⟨g', cap', cur, h2, _, _, h3, _⟩
      · omega
      · simp at h2; omega
    cases so <;> cases ao <;> simp [Builtin.append_, run_underlying und, sizeOf, typeInfo, hi, Builtin.lenOf, Builtin.firstCells, storeCells, loadCells, loadCellsFrom, hnc]
  · have hp : 0 < m * size := Nat.mul_pos h9 pos
    obtain ⟨b, off, e', _⟩ := hr hp
    subst e'
    obtain ⟨g', cap', w', h2, h3, h4, h5, _⟩ := run_append_lies (P := P) w t ty base e i z size bytes und hi hz hs hb hzs pos (.slice ao n cap) n (gCells f (n * size)) h0 ⟨b, off, none⟩ m c (gCells g (m * size)) (gCells_len _ _) (GRow.news hr) (fun u hu => by
      obtain ⟨j, _, rfl⟩ := List.mem_map.1 hu
      exact h1 j) h9 (by unfold maxLen; omega) (by
      have : (n + m) * bytes ≤ 100000000 * 1000 := Nat.mul_le_mul hn few
      omega) hbase w.heap.size rfl
    refine ⟨some ⟨g', 0, none⟩, cap', w', h2, ?_, h4, ?_⟩
    · unfold GOwn
      have e : gCells f (n * size) ++ gCells g (m * size) = gCells (fun j => if j < n * size then f j else g (j - n * size)) ((n + m) * size) := by
        have := gCells_app (f := f) (g := g) (h := fun j => if j < n * size then f j else g (j - n * size)) (a := n * size) (b := m * size) (fun j hj => by rw [if_pos hj]) (fun j hj => by rw [if_neg (by omega)]; congr 1; omega)
        rw [Nat.add_mul]
        exact this
      rw [← e]
      exact h3
    · rcases h5 with h5 | h5
      · exact .inl (by rw [h5]; rfl)
      · exact .inr (by rw [h5]; rfl)
/-- A list of one element, just made. -/
def L1 (x : Value) (v : Value) (w : World) : Prop := ∃ B, v = .slice (some ⟨B, 0, none⟩) 1 1 ∧ w.cell? ⟨B, 0, none⟩ = some x
theorem L1.rb {x : Value} (v : Value) (w w' : World) (h : L1 x v w) (hb : RB w w') : L1 x v w' := by
  obtain ⟨B, e, h⟩ := h
  exact ⟨B, e, keep_cell hb (Nat.le_refl _) h⟩
theorem L1.new (x : Value) (t : TypeId) (w : World) : L1 x (.slice (some ⟨w.heap.size, 0, none⟩) 1 1) (w.alloc (.cells #[x] t)) := ⟨w.heap.size, rfl, by simp [go_sem]⟩
theorem L1.row {x : Value} {B : Nat} {w : World} (h : w.cell? ⟨B, 0, none⟩ = some x) : GRow w (some ⟨B, 0, none⟩) (1 * 1) (fun _ => x) := fun _ => ⟨B, 0, rfl, fun j hj => by
  have : j = 0 := by omega
  subst this
  exact h⟩
/-- One cell stored into a box, in a plain region. -/
theorem wpList_cell {o : Oper} {rest : List Oper} {a : Act} {W : World} {Q : Exit → Act → World → Prop} (hgd : o.guard = none) (ty : TypeId) (x y : Operand) (ho : o.op = .store ty x y) (hd : o.dst = none) (b k : Nat) (v : Value) (hx : a.eval x = .pointer (some ⟨b, k, none⟩)) (hy : a.eval y = v) {t : TypeId} {n : Nat} {f : Nat → Value} (hb : VHas W b t n f) (hk : k < n) (hi : (P.info? ty).map (·.size) = some 1) (hvc : v.cells = #[v]) (hv : v.oneCell' = true)
    (h : ∀ W', W' = W.setCell ⟨b, k, none⟩ v → wpList P ops Q rest a W') : wpList P ops Q (o :: rest) a W :=
  wpList_plain hgd fun K hK => by
    have hr := exec_cell (P := P) ho hx hy hb hk hi hvc hv
    unfold Oper.wp
    rw [hr]
    simp only [Oper.upon, hd]
    refine hK _ _ ?_
    exact h _ rfl
/-- append(own, list...), in a plain region. -/
theorem wpList_app {o : Oper} {rest : List Oper} {a : Act} {w : World} {Q : Exit → Act → World → Prop} (hgd : o.guard = none) (s x : Operand) {t e : TypeId} {size bytes : Nat} (E : ElI P t e size bytes) (ho : o.op = .call { callee := .builtin .append, args := #[s, x], argTypes := #[t, t] }) (d : Nat) (hd : o.dst = some d) (base : Nat) (f : Nat → Value) (ao : Option Addr) (n cap : Nat) (hs : a.eval s = .slice ao n cap) (h0 : GOwn w base e size ao n cap f) (so : Option Addr) (m c : Nat) (g : Nat → Value) (hx : a.eval x = .slice so m c) (hr : GRow w so (m * size) g) (h1 : ∀ j, (g j).oneCell' = true) (hn : n + m ≤ 100000000) (hbase : base ≤ w.heap.size)
    (h : ∀ ao' cap' w', GOwn w' base e size ao' (n + m) cap' (fun j => if j < n * size then f j else g (j - n * size)) → w.grownBy w' (Value.slice ao n cap).ownBlock → ((Value.slice ao' (n + m) cap').ownBlock = (Value.slice ao n cap).ownBlock ∨ (Value.slice ao' (n + m) cap').ownBlock = some w.heap.size) → wpList P ops Q rest (a.put (some d) (.slice ao' (n + m) cap')) w') : wpList P ops Q (o :: rest) a w :=
  wpList_plain hgd fun K hK => by
    obtain ⟨ao', cap', w', hrun, h2, h3, h4⟩ := run_app E w o.type base f ao n cap h0 so m c g hr h1 hn hbase
    have hr2 := exec_append (P := P) ho hs hx hrun
    unfold Oper.wp
    rw [hr2]
    simp only [Oper.upon, hd]
    exact hK _ _ (h ao' cap' w' h2 h3 h4)
end

end Go.Proofs.YticckgmkhgnmfaaDoor
