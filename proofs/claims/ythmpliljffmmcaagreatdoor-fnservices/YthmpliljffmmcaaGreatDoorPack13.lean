/-
  Helpers: Regs, ApL, BAn, Equal.
-/
import Derived.Test.YthmpliljffmmcaaGreatDoorPack1
import Derived.Test.YthmpliljffmmcaaGreatDoorPack12
import Derived.Test.YthmpliljffmmcaaGreatDoorPack10
import Derived.ArgAppend
import Derived.Test.YthmpliljffmmcaaGreatDoorPack11
import Derived.Test.YthmpliljffmmcaaGreatDoorPack6
import Derived.Deep.RegionHeld3
import Derived.Test.YthmpliljffmmcaaGreatDoorRows
import Derived.Test.YthmpliljffmmcaaGreatDoorPack2
set_option linter.unusedVariables false
set_option linter.unusedSimpArgs false
namespace Go.Proofs.YthmpliljffmmcaaGreatDoor
section
open Go Go.RowKit
def RB (u v : World) : Prop := Below u.heap.size u v
theorem RB.refl (w : World) : RB w w := Below.refl _ _
theorem RB.trans (u v w : World) (h : RB u v) (k : RB v w) : RB u w := below_next h nl k
theorem RB.alloc (w : World) (o : Obj) : RB w (w.alloc o) := (Below.refl w.heap.size w).alloc nl o
theorem oneAll {vs : List Value} (h : (vs.all fun v => v.oneCell') = true) : ∀ v ∈ vs, v.oneCell' = true := by simpa using h
theorem oneV {v : Value} (h : v.oneCell' = true) : v.oneCell' = true := h
theorem below_row {w W W' : World} {row : Option Nat} (h : Below w.heap.size w W) (hg : W.grownBy W' row) (hx : ∀ x, row = some x → w.heap.size ≤ x) : Below w.heap.size w W' :=
  ⟨hg.os.trans h.os, hg.tape.trans h.tape, hg.output.trans h.output, Nat.le_trans h.size hg.size, fun k hk => (hg.block k (Nat.lt_of_lt_of_le hk h.size) (fun q => by have := hx k q.symm; omega)).trans (h.block k hk)⟩
section
variable {P : Program} {ops : Array Oper}
theorem EvOk.get {a0 : Act} {o : Oper} {v : Nat → Value} {ev : Operand → Value} {Pr : Nat → Value → World → Prop} {w : World} (E : EvOk ops a0 o v ev) (pr : ∀ j, j < ops.size → waitsB o j = true → Pr j (v j) w) (j d : Nat)
    (h1 : (ops[j]?).bind (·.dst) = some d := by rfl) (h2 : waitsB o j = true := by kernel_rfl) (h3 : Nat.blt d a0.tmps.size = true := by kernel_rfl) (h4 : Nat.blt j ops.size = true := by kernel_rfl) : Pr j (ev (.tmp d)) w := by
  rw [E.at_ j d h1 h2 (Nat.le_of_ble_eq_true h3)]
  exact pr j (Nat.le_of_ble_eq_true h4) h2
theorem EvOk.was {a0 : Act} {o : Oper} {v : Nat → Value} {ev : Operand → Value} (E : EvOk ops a0 o v ev) (d : Nat) (u : Value) (h : noDstB ops d = true := by kernel_rfl) (h2 : a0.eval (.tmp d) = u := by rfl) : ev (.tmp d) = u := (E.old d h).trans h2
theorem OpOk.get {a0 : Act} {w0 : World} {R : World → World → Prop} {Pr : Nat → Value → World → Prop} {i : Nat} {o : Oper} (hR : ∀ w, R w w) (u : Value) (hp : ∀ w, Pr i u w)
    (h : ∀ (ev : Operand → Value) (w : World) (v : Nat → Value), R w0 w → EvOk ops a0 o v ev → (∀ j, j < ops.size → waitsB o j = true → Pr j (v j) w) → (execOp ev o).run P w = .ok (.value u) w) (hg : o.guard = none := by rfl) : OpOk P ops a0 w0 R Pr i o :=
  OpOk.val hg fun ev w v hR' E pr => ⟨u, w, h ev w v hR' E pr, hR w, hp w⟩
theorem exec_append {o : Oper} {ev : Operand → Value} {s x : Operand} {t : TypeId} {v1 v2 u : Value} {w w' : World} (ho : o.op = .call { callee := .builtin .append, args := #[s, x], argTypes := #[t, t] }) (hs : ev s = v1) (hx : ev x = v2) (hr : (Builtin.append_ #[t, t] o.type #[v1, v2]).run P w = .ok u w') : (execOp ev o).run P w = .ok (.value u) w' := by
  unfold execOp
  simp only [ho, resolve, invoke, builtin, Sem.run_bind, Sem.run_pure, Result.andThen_ok, List.map_toArray, List.map_cons, List.map_nil, hs, hx, hr]
theorem exec_box {o : Oper} {ev : Operand → Value} {ty : TypeId} {x y : Operand} {b : Nat} {t : TypeId} {f : Nat → Value} {W : World} (vs : List Value) (ho : o.op = .store ty x y) (hx : ev x = .pointer (some ⟨b, 0, none⟩)) (hy : ev y = .agg vs.toArray) (hb : VHas W b t vs.length f) (hi : (P.info? ty).map (·.size) = some vs.length) (hv : ∀ v ∈ vs, v.oneCell' = true) : (execOp ev o).run P W = .ok .skip (setL W b 0 vs) := by
  have hrun := run_storeBox (P := P) (ty := ty) vs hb hi hv
  unfold execOp
  simp only [ho, hx, hy, Instr.storeAt, Instr.sureAddr, Sem.run_bind, Sem.run_pure, Result.andThen_ok, hrun]
structure ElI (P : Program) (t e : TypeId) (size bytes : Nat) : Prop where
  und : P.underlying t = some (.slice e)
  inf : ∃ i z, P.info? e = some i ∧ i.zero = some z ∧ i.size = size ∧ i.bytes = bytes ∧ z.cells.size = size
  pos : 0 < size
  few : bytes ≤ 1000
theorem run_cat0 {t e : TypeId} {size bytes : Nat} (E : ElI P t e size bytes) (w : World) (ty : TypeId) (base g : Nat) (f : Nat → Value) (h0 : GOwn w base e size (some ⟨g, 0, none⟩) 0 0 f) (so : Option Addr) (m c : Nat) (hr : GRow w so (m * size) f) (h1 : ∀ j, (f j).oneCell' = true) (hm : m ≤ 1048576) (hbase : base ≤ w.heap.size) :
    ∃ ao' cap' w', (Builtin.append_ #[t, t] ty #[.slice (some ⟨g, 0, none⟩) 0 0, .slice so m c]).run P w = .ok (.slice ao' m cap') w' ∧ GOwn w' base e size ao' m cap' f ∧ RB w w' := by
  obtain ⟨und, ⟨i, z, hi, hz, hs, hb, hzs⟩, pos, few⟩ := E
  rcases Nat.eq_zero_or_pos m with h9 | h9
  · subst h9
    refine ⟨some ⟨g, 0, none⟩, 0, w, ?_, h0, RB.refl _⟩
    cases so <;> simp [Builtin.append_, run_underlying und, sizeOf, typeInfo, hi, Builtin.lenOf, Builtin.firstCells, storeCells, loadCells, loadCellsFrom]
  · have hp : 0 < m * size := Nat.mul_pos h9 pos
    obtain ⟨b, off, e', _⟩ := hr hp
    subst e'
    obtain ⟨v', w', h2, h3, h4⟩ := run_append_arg_grows (P := P) w t ty e i z size bytes und hi hz hs hb hzs pos ⟨g, 0, none⟩ 0 0 [] (by simp) (fun j u hu => by simp at hu) ⟨b, off, none⟩ m c (gCells f (m * size)) (gCells_len _ _) (GRow.news hr) (by omega) (by unfold maxLen; omega) (by
      have : (0 + m) * bytes ≤ 1048576 * 1000 := Nat.mul_le_mul (by omega) few
      omega)
    rw [Nat.zero_add, List.nil_append] at h3
    obtain ⟨g', cap', e1, _, _⟩ := h3.form h9
    subst e1
    exact ⟨some ⟨g', 0, none⟩, cap', w', h2, GOwn.from h3 hbase, ⟨h4.os, h4.tape, h4.output, h4.size, fun k hk => h4.block k hk (by simp)⟩⟩
def LO (base : Nat) (t : TypeId) (size n : Nat) (f : Nat → Value) (v : Value) (w : World) : Prop := ∃ ao cap, v = .slice ao n cap ∧ GOwn w base t size ao n cap f
theorem LO.rb {base : Nat} {t : TypeId} {size n : Nat} {f : Nat → Value} (v : Value) (w w' : World) (h : LO base t size n f v w) (hb : RB w w') : LO base t size n f v w' := by
  obtain ⟨ao, cap, e, h⟩ := h
  exact ⟨ao, cap, e, h.next hb⟩
def LE (base : Nat) (t : TypeId) (v : Value) (w : World) : Prop := ∃ g, v = .slice (some ⟨g, 0, none⟩) 0 0 ∧ Typed w g t ∧ base ≤ g ∧ ∀ size f, GOwn w base t size (some ⟨g, 0, none⟩) 0 0 f
theorem LE.rb {base : Nat} {t : TypeId} (v : Value) (w w' : World) (h : LE base t v w) (hb : RB w w') : LE base t v w' := by
  obtain ⟨g, e, ht, hg, h⟩ := h
  refine ⟨g, e, ?_, hg, fun size f => (h size f).next hb⟩
  obtain ⟨cs, z, h1⟩ := ht
  have hlt := (Array.getElem?_eq_some_iff.1 h1).1
  exact ⟨cs, z, by rw [hb.block g hlt]; exact h1⟩
theorem LE.new (w : World) (base : Nat) (t : TypeId) (hb : base ≤ w.heap.size) : LE base t (.slice (some ⟨w.heap.size, 0, none⟩) 0 0) (w.alloc (.cells #[] t)) :=
  ⟨w.heap.size, rfl, ⟨#[], (0, 0), Go.Deep.blk_alloc_new _ _⟩, hb, fun size f => (GOwn.empty w t size f).from hb⟩
theorem OpOk.cat {a0 : Act} {w0 : World} {Pr : Nat → Value → World → Prop} {i : Nat} {o : Oper} {t e : TypeId} {size bytes : Nat} (El : ElI P t e size bytes) (base : Nat) (so : Option Addr) (m c : Nat) (f : Nat → Value) (h1 : ∀ j, (f j).oneCell' = true) (hm : m ≤ 1048576) (hbase : base ≤ w0.heap.size)
    (j1 d1 j2 d2 : Nat) (ho : o.op = .call { callee := .builtin .append, args := #[.tmp d1, .tmp d2], argTypes := #[t, t] })
    (hE : ∀ v w, Pr j1 v w → LE base e v w) (hX : ∀ v w, Pr j2 v w → v = .slice so m c) (hr : ∀ w, RB w0 w → GRow w so (m * size) f) (hP : ∀ v w, LO base e size m f v w → Pr i v w)
    (hg : o.guard = none := by rfl) (q1 : (ops[j1]?).bind (·.dst) = some d1 := by rfl) (q2 : waitsB o j1 = true := by kernel_rfl) (q3 : Nat.blt d1 a0.tmps.size = true := by kernel_rfl) (q4 : Nat.blt j1 ops.size = true := by kernel_rfl)
    (p1 : (ops[j2]?).bind (·.dst) = some d2 := by rfl) (p2 : waitsB o j2 = true := by kernel_rfl) (p3 : Nat.blt d2 a0.tmps.size = true := by kernel_rfl) (p4 : Nat.blt j2 ops.size = true := by kernel_rfl) : OpOk P ops a0 w0 RB Pr i o := by
  refine OpOk.val hg fun ev w v hR E pr => ?_
  obtain ⟨g, e1, _, _, h0⟩ := hE _ _ (E.get pr j1 d1 q1 q2 q3 q4)
  have e2 := hX _ _ (E.get pr j2 d2 p1 p2 p3 p4)
  obtain ⟨ao', cap', w', hrun, hown, hb⟩ := run_cat0 El w o.type base g f (h0 size f) so m c (hr w hR) h1 hm (Nat.le_trans hbase hR.size)
  exact ⟨_, w', exec_append ho e1 e2 hrun, hb, hP _ _ ⟨ao', cap', rfl, hown⟩⟩
theorem exec_cell {o : Oper} {ev : Operand → Value} {ty : TypeId} {x y : Operand} {b k n : Nat} {t : TypeId} {f : Nat → Value} {W : World} {v : Value} (ho : o.op = .store ty x y) (hx : ev x = .pointer (some ⟨b, k, none⟩)) (hy : ev y = v) (hb : VHas W b t n f) (hk : k < n) (hi : (P.info? ty).map (·.size) = some 1) (hvc : v.cells = #[v]) (hv : v.oneCell' = true) : (execOp ev o).run P W = .ok .skip (W.setCell ⟨b, k, none⟩ v) := by
  have c1 := hb.cell hk
  have z1 := hb.frozen k
  have hrun : (storeVar ty ⟨b, k, none⟩ v).run P W = .ok () (W.setCell ⟨b, k, none⟩ v) := by
    cases hq : P.info? ty with
    | none => simp [hq] at hi
    | some i =>
      have hs : i.size = 1 := by simpa [hq] using hi
      have e1 : (⟨b, k, none⟩ : Addr).add 0 = ⟨b, k, none⟩ := by rw [Addr.add_mid]; rfl
      have hst : (store (⟨b, k, none⟩ : Addr) v).run P W = .ok () (W.setCell ⟨b, k, none⟩ v) := by
        rw [run_store P W _ v _ hv, c1]
        simp [z1]
      simp [storeVar, sizeOf, typeInfo, hq, hvc, hs, storeCells, e1, hst]
  unfold execOp
  simp only [ho, hx, hy, Instr.storeAt, Instr.sureAddr, Sem.run_bind, Sem.run_pure, Result.andThen_ok, hrun]
theorem run_app {t e : TypeId} {size bytes : Nat} (E : ElI P t e size bytes) (w : World) (ty : TypeId) (base : Nat) (f : Nat → Value) (ao : Option Addr) (n cap : Nat) (h0 : GOwn w base e size ao n cap f) (so : Option Addr) (m c : Nat) (g : Nat → Value) (hr : GRow w so (m * size) g) (h1 : ∀ j, (g j).oneCell' = true) (hn : n + m ≤ 100000000) (hbase : base ≤ w.heap.size) :
    ∃ ao' cap' w', (Builtin.append_ #[t, t] ty #[.slice ao n cap, .slice so m c]).run P w = .ok (.slice ao' (n + m) cap') w' ∧ GOwn w' base e size ao' (n + m) cap' (fun j => if j < n * size then f j else g (j - n * size)) ∧ w.grownBy w' (Value.slice ao n cap).ownBlock ∧ ((Value.slice ao' (n + m) cap').ownBlock = (Value.slice ao n cap).ownBlock ∨ (Value.slice ao' (n + m) cap').ownBlock = some w.heap.size) := by
  obtain ⟨und, ⟨i, z, hi, hz, hs, hb, hzs⟩, pos, few⟩ := E
  rcases Nat.eq_zero_or_pos m with h9 | h9
  · subst h9
    refine ⟨ao, cap, w, ?_, h0.congr (fun j hj => by rw [if_pos hj]), ⟨rfl, rfl, rfl, Nat.le_refl _, fun _ _ _ => rfl⟩, .inl rfl⟩
    have hnc : n ≤ cap := by
      rcases h0.2 with ⟨h2, h3⟩ | ⟨g', cap', cur, h2, _, _, h3, _⟩
      · omega
      · simp at h2; omega
    cases so <;> cases ao <;> simp [Builtin.append_, run_underlying und, sizeOf, typeInfo, hi, Builtin.lenOf, Builtin.firstCells, storeCells, loadCells, loadCellsFrom, hnc]
  · have hp : 0 < m * size := Nat.mul_pos h9 pos
    obtain ⟨b, off, e', _⟩ := hr hp
    subst e'
    obtain ⟨g', cap', w', h2, h3, h4, h5, _⟩ := run_append_lies (P := P) w t ty base e i z size bytes und hi hz hs hb hzs pos (.slice ao n cap) n (gCells f (n * size)) h0 ⟨b, off, none⟩ m c (gCells g (m * size)) (gCells_len _ _) (GRow.news hr) (fun u hu => by
      obtain ⟨j, _, rfl⟩ := List.mem_map.1 hu
      exact h1 j) h9 (by unfold maxLen; omega) (by
      have : (n + m) * bytes ≤ 100000000 * 1000 := Nat.mul_le_mul hn few
      omega) hbase w.heap.size rfl
    refine ⟨some ⟨g', 0, none⟩, cap', w', h2, ?_, h4, ?_⟩
    · unfold GOwn
      have e : gCells f (n * size) ++ gCells g (m * size) = gCells (fun j => if j < n * size then f j else g (j - n * size)) ((n + m) * size) := by
        have := gCells_app (f := f) (g := g) (h := fun j => if j < n * size then f j else g (j - n * size)) (a := n * size) (b := m * size) (fun j hj => by rw [if_pos hj]) (fun j hj => by rw [if_neg (by omega)]; congr 1; omega)
        rw [Nat.add_mul]
        exact this
      rw [← e]
      exact h3
    · rcases h5 with h5 | h5
      · exact .inl (by rw [h5]; rfl)
      · exact .inr (by rw [h5]; rfl)
def L1 (x : Value) (v : Value) (w : World) : Prop := ∃ B, v = .slice (some ⟨B, 0, none⟩) 1 1 ∧ w.cell? ⟨B, 0, none⟩ = some x
theorem L1.rb {x : Value} (v : Value) (w w' : World) (h : L1 x v w) (hb : RB w w') : L1 x v w' := by
  obtain ⟨B, e, h⟩ := h
  exact ⟨B, e, keep_cell hb nl h⟩
theorem L1.new (x : Value) (t : TypeId) (w : World) : L1 x (.slice (some ⟨w.heap.size, 0, none⟩) 1 1) (w.alloc (.cells #[x] t)) := ⟨w.heap.size, rfl, by simp [go_sem]⟩
theorem L1.row {x : Value} {B : Nat} {w : World} (h : w.cell? ⟨B, 0, none⟩ = some x) : GRow w (some ⟨B, 0, none⟩) (1 * 1) (fun _ => x) := fun _ => ⟨B, 0, rfl, fun j hj => by
  have : j = 0 := by omega
  subst this
  exact h⟩
theorem wpList_cell {o : Oper} {rest : List Oper} {a : Act} {W : World} {Q : Exit → Act → World → Prop} (hgd : o.guard = none) (ty : TypeId) (x y : Operand) (ho : o.op = .store ty x y) (hd : o.dst = none) (b k : Nat) (v : Value) (hx : a.eval x = .pointer (some ⟨b, k, none⟩)) (hy : a.eval y = v) {t : TypeId} {n : Nat} {f : Nat → Value} (hb : VHas W b t n f) (hk : k < n) (hi : (P.info? ty).map (·.size) = some 1) (hvc : v.cells = #[v]) (hv : v.oneCell' = true)
    (h : ∀ W', W' = W.setCell ⟨b, k, none⟩ v → wpList P ops Q rest a W') : wpList P ops Q (o :: rest) a W :=
  wpList_plain hgd fun K hK => by
    have hr := exec_cell (P := P) ho hx hy hb hk hi hvc hv
    unfold Oper.wp
    rw [hr]
    simp only [Oper.upon, hd]
    refine hK _ _ ?_
    exact h _ rfl
theorem wpList_app {o : Oper} {rest : List Oper} {a : Act} {w : World} {Q : Exit → Act → World → Prop} (hgd : o.guard = none) (s x : Operand) {t e : TypeId} {size bytes : Nat} (E : ElI P t e size bytes) (ho : o.op = .call { callee := .builtin .append, args := #[s, x], argTypes := #[t, t] }) (d : Nat) (hd : o.dst = some d) (base : Nat) (f : Nat → Value) (ao : Option Addr) (n cap : Nat) (hs : a.eval s = .slice ao n cap) (h0 : GOwn w base e size ao n cap f) (so : Option Addr) (m c : Nat) (g : Nat → Value) (hx : a.eval x = .slice so m c) (hr : GRow w so (m * size) g) (h1 : ∀ j, (g j).oneCell' = true) (hn : n + m ≤ 100000000) (hbase : base ≤ w.heap.size)
    (h : ∀ ao' cap' w', GOwn w' base e size ao' (n + m) cap' (fun j => if j < n * size then f j else g (j - n * size)) → w.grownBy w' (Value.slice ao n cap).ownBlock → ((Value.slice ao' (n + m) cap').ownBlock = (Value.slice ao n cap).ownBlock ∨ (Value.slice ao' (n + m) cap').ownBlock = some w.heap.size) → wpList P ops Q rest (a.put (some d) (.slice ao' (n + m) cap')) w') : wpList P ops Q (o :: rest) a w :=
  wpList_plain hgd fun K hK => by
    obtain ⟨ao', cap', w', hrun, h2, h3, h4⟩ := run_app E w o.type base f ao n cap h0 so m c g hr h1 hn hbase
    have hr2 := exec_append (P := P) ho hs hx hrun
    unfold Oper.wp
    rw [hr2]
    simp only [Oper.upon, hd]
    exact hK _ _ (h ao' cap' w' h2 h3 h4)
end
end
section
open Go.RowKit Go.Maps Go.Deep Go.Joins
attribute [local go_sem ↓] Go.wp_at_zero Go.wp_at_succ
def hb2 (a b : Value) (j : Nat) : Value := if j = 0 then a else b
theorem hb2_new (w : World) (a b : Value) : VHas (w.alloc (.cells #[a, b] 30)) w.heap.size 30 2 (hb2 a b) :=
  ⟨_, Go.Deep.blk_alloc_new _ _, by simp, fun j hj => by
    have : j = 0 ∨ j = 1 := by omega
    rcases this with rfl | rfl <;> rfl⟩
theorem Tryz.elI : ElI Tryz.prog 27 2 1 8 := ⟨Tryz.underlying27, by
  obtain ⟨i0, hi0, hz0, hz1, hz2⟩ := info_parts Tryz.info9I
  exact ⟨i0, _, hi0, hz0, hz1, hz2, rfl⟩, by omega, by omega⟩
theorem Tryz.elE : ElI Tryz.prog 28 94 2 16 := ⟨Tryz.underlying28, by
  obtain ⟨i0, hi0, hz0, hz1, hz2⟩ := info_parts Tryz.info9E
  exact ⟨i0, _, hi0, hz0, hz1, hz2, rfl⟩, by omega, by omega⟩
theorem Tryz.elS : ElI Tryz.prog 31 9 1 16 := ⟨Tryz.underlying31, by
  obtain ⟨i0, hi0, hz0, hz1, hz2⟩ := info_parts Tryz.info9S
  exact ⟨i0, _, hi0, hz0, hz1, hz2, rfl⟩, by omega, by omega⟩
def L2 (base k m : Nat) (f g : Nat → Value) (v : Value) (w : World) : Prop := ∃ v1 v2, v = .agg #[v1, v2] ∧ LO base 2 1 k f v1 w ∧ LO base 94 2 m g v2 w
theorem L2.rb {base k m : Nat} {f g : Nat → Value} (v : Value) (w w' : World) (h : L2 base k m f g v w) (hb : RB w w') : L2 base k m f g v w' := by
  obtain ⟨v1, v2, e, h1, h2⟩ := h
  exact ⟨v1, v2, e, h1.rb _ _ _ hb, h2.rb _ _ _ hb⟩
def BX (base : Nat) (v : Value) (w : World) : Prop := ∃ b, v = .pointer (some ⟨b, 0, none⟩) ∧ base ≤ b ∧ VHas w b 30 2 (hb2 (.slice none 0 0) (.slice none 0 0))
theorem BX.rb {base : Nat} (v : Value) (w w' : World) (h : BX base v w) (hb : RB w w') : BX base v w' := by
  obtain ⟨b, e, h1, h2⟩ := h
  exact ⟨b, e, h1, h2.next hb⟩
def CpG (p : Int) (n : Nat) (f : Nat → Value) (v : Value) (w : World) : Prop := ∃ g c, v = .agg #[.int .i64 p, .slice (some ⟨g, 0, none⟩) n c] ∧ TRow w 67 (some ⟨g, 0, none⟩) (n * 3) f
theorem CpG.rb {p : Int} {n : Nat} {f : Nat → Value} (v : Value) (w w' : World) (h : CpG p n f v w) (hb : RB w w') : CpG p n f v w' := by
  obtain ⟨g, c, e, h⟩ := h
  exact ⟨g, c, e, h.next hb⟩
set_option maxRecDepth 100000 in
set_option maxHeartbeats 8000000 in
theorem l8Copy_any (p : Int) (ao : Option Addr) (n cap : Nat) (F T G : Nat → Int) (po : Option Addr) (k pcap : Nat) (P : Nat → Int) (eo : Option Addr) (m ecap : Nat) (L H : Nat → Int) (V : Int) (so : Option Addr) (t scap : Nat) (S : Nat → ByteArray) (hn : n ≤ 1048576) (hk : k ≤ 1048576) (hm : m ≤ 1048576) (ht : t ≤ 1048576) (w : World) (hr : Row w ao n F T G) (hp : IRow w po k P) (he : ERow w eo m L H) (hs : SRow w so t S) :
    Calls Tryz.prog 28 #[.agg #[.int .i64 p, .slice ao n cap, .slice po k pcap, .slice eo m ecap, .int .i64 V, .slice so t scap]] w fun e w' => SvCp w w' e p n F T G k P m L H V t S := by
  have hA : Below w.heap.size w ((w.alloc (.cells #[.int .i64 p, .slice ao n cap, .slice po k pcap, .slice eo m ecap, .int .i64 V, .slice so t scap] 33)).alloc (.cells #[.int .i64 0, .slice none 0 0, .slice none 0 0, .slice none 0 0, .int .i64 0, .slice none 0 0] 33)) := ((Below.refl _ _).alloc nl _).alloc (by simp) _
  have vA := (sv6_new w p (.slice ao n cap) (.slice po k pcap) (.slice eo m ecap) V (.slice so t scap) 33).alloc (.cells #[.int .i64 0, .slice none 0 0, .slice none 0 0, .slice none 0 0, .int .i64 0, .slice none 0 0] 33)
  have vR := sv6_new (w.alloc (.cells #[.int .i64 p, .slice ao n cap, .slice po k pcap, .slice eo m ecap, .int .i64 V, .slice so t scap] 33)) 0 (.slice none 0 0) (.slice none 0 0) (.slice none 0 0) 0 (.slice none 0 0) 33
  simp only [World.size_alloc] at vR
  have hsz : ((w.alloc (.cells #[.int .i64 p, .slice ao n cap, .slice po k pcap, .slice eo m ecap, .int .i64 V, .slice so t scap] 33)).alloc (.cells #[.int .i64 0, .slice none 0 0, .slice none 0 0, .slice none 0 0, .int .i64 0, .slice none 0 0] 33)).heap.size = w.heap.size + 2 := by simp
  go_enter Tryz.func28, Tryz.ntmps28
  go_wp2_with fail
  generalize ((w.alloc (.cells #[.int .i64 p, .slice ao n cap, .slice po k pcap, .slice eo m ecap, .int .i64 V, .slice so t scap] 33)).alloc (.cells #[.int .i64 0, .slice none 0 0, .slice none 0 0, .slice none 0 0, .int .i64 0, .slice none 0 0] 33)) = W at hA vA vR hsz ⊢
  have hd : RB W W.drew := (Below.refl _ _).drew
  replace hA := below_next hA nl hd
  replace vA := vA.next hd
  replace vR := vR.next hd
  have hsd : W.drew.heap.size = w.heap.size + 2 := hsz
  refine region_store (by kernel_rfl) (by kernel_rfl) (by kernel_rfl) RB RB.refl RB.trans
    [LE w.heap.size 2, fun v _ => v = .pointer (some ⟨w.heap.size, 2, none⟩), fun v _ => v = .pointer (some ⟨w.heap.size, 2, none⟩), fun v _ => v = .slice po k pcap, LO w.heap.size 2 1 k (fun j => Value.int .i64 (P j)), LE w.heap.size 94, fun v _ => v = .pointer (some ⟨w.heap.size, 2, none⟩), fun v _ => v = .pointer (some ⟨w.heap.size, 3, none⟩), fun v _ => v = .slice eo m ecap, LO w.heap.size 94 2 m (fun j => Value.int .i64 (er L H j)), L2 w.heap.size k m (fun j => Value.int .i64 (P j)) (fun j => Value.int .i64 (er L H j)), BX (w.heap.size + 2)]
    ⟨LE.rb, fun _ _ _ h _ => h, fun _ _ _ h _ => h, fun _ _ _ h _ => h, LO.rb, LE.rb, fun _ _ _ h _ => h, fun _ _ _ h _ => h, fun _ _ _ h _ => h, LO.rb, L2.rb, BX.rb, trivial⟩ rfl ?_ _ rfl rfl rfl
    (fun v w'' => ∃ bb v1 v2, v 11 = .pointer (some ⟨bb, 0, none⟩) ∧ w.heap.size + 2 ≤ bb ∧ VHas w'' bb 30 2 (lf [v1, v2]) ∧ LO w.heap.size 2 1 k (fun j => Value.int .i64 (P j)) v1 w'' ∧ LO w.heap.size 94 2 m (fun j => Value.int .i64 (er L H j)) v2 w'' ∧ Below w.heap.size w w'' ∧ VHas w'' w.heap.size 33 6 (sv6 p (.slice ao n cap) (.slice po k pcap) (.slice eo m ecap) V (.slice so t scap)) ∧ VHas w'' (w.heap.size + 1) 33 6 (sv6 0 (.slice none 0 0) (.slice none 0 0) (.slice none 0 0) 0 (.slice none 0 0))) ?_ ?_
  · simp only [List.size_toArray, List.length_cons, List.length_nil, Nat.reduceAdd, Nat.reduceSub, List.take_succ_cons, List.take_zero]
    have hb1 : w.heap.size ≤ W.drew.heap.size := by omega
    refine allOk_cons ?_ (allOk_cons ?_ (allOk_cons ?_ (allOk_cons ?_ (allOk_cons ?_ (allOk_cons ?_ (allOk_cons ?_ (allOk_cons ?_ (allOk_cons ?_ (allOk_cons ?_ (allOk_cons ?_ (allOk_cons ?_ allOk_nil)))))))))))
    · exact OpOk.val rfl fun ev w' v hR E pr => ⟨_, w'.alloc (.cells #[] 2), by simp [go_sem], RB.alloc _ _, LE.new w' _ _ (Nat.le_trans hb1 hR.size)⟩
    · exact OpOk.get RB.refl _ (fun _ => rfl) fun ev w' v hR E pr => by simp [go_sem, E.was 1 _]
    · exact OpOk.get RB.refl _ (fun _ => rfl) fun ev w' v hR E pr => by
        have e1 : ev (.tmp 5) = _ := E.get pr 1 5
        simp [go_sem, e1]
    · exact OpOk.get RB.refl _ (fun _ => rfl) fun ev w' v hR E pr => by
        have e1 : ev (.tmp 6) = _ := E.get pr 2 6
        have c := (vA.next hR).cell (j := 2) (by omega)
        simp [sv6] at c
        simp [go_sem, e1, c]
    · exact OpOk.cat Tryz.elI _ po k pcap _ (fun _ => rfl) hk hb1 0 4 3 7 rfl (fun _ _ h => h) (fun _ _ h => h) (fun w' hR => (hp.below (below_next hA nl hR) nl).g) (fun _ _ h => h)
    · exact OpOk.val rfl fun ev w' v hR E pr => ⟨_, w'.alloc (.cells #[] 94), by simp [go_sem], RB.alloc _ _, LE.new w' _ _ (Nat.le_trans hb1 hR.size)⟩
    · exact OpOk.get RB.refl _ (fun _ => rfl) fun ev w' v hR E pr => by simp [go_sem, E.was 1 _]
    · exact OpOk.get RB.refl _ (fun _ => rfl) fun ev w' v hR E pr => by
        have e1 : ev (.tmp 10) = _ := E.get pr 6 10
        simp [go_sem, e1]
    · exact OpOk.get RB.refl _ (fun _ => rfl) fun ev w' v hR E pr => by
        have e1 : ev (.tmp 11) = _ := E.get pr 7 11
        have c := (vA.next hR).cell (j := 3) (by omega)
        simp [sv6] at c
        simp [go_sem, e1, c]
    · exact OpOk.cat Tryz.elE _ eo m ecap _ (fun _ => rfl) hm hb1 5 9 8 12 rfl (fun _ _ h => h) (fun _ _ h => h) (fun w' hR => (he.below (below_next hA nl hR) nl).g) (fun _ _ h => h)
    · refine OpOk.val rfl fun ev w' v hR E pr => ?_
      obtain ⟨a1, c1, e1, h1⟩ : LO w.heap.size 2 1 k (fun j => Value.int .i64 (P j)) (ev (.tmp 8)) w' := E.get pr 4 8
      obtain ⟨a2, c2, e2, h2⟩ : LO w.heap.size 94 2 m (fun j => Value.int .i64 (er L H j)) (ev (.tmp 13)) w' := E.get pr 9 13
      exact ⟨.agg #[.slice a1 k c1, .slice a2 m c2], w', by simp [go_sem, e1, e2], RB.refl _, _, _, rfl, ⟨a1, c1, rfl, h1⟩, a2, c2, rfl, h2⟩
    · exact OpOk.val rfl fun ev w' v hR E pr => ⟨.pointer (some ⟨w'.heap.size, 0, none⟩), w'.alloc (.cells #[.slice none 0 0, .slice none 0 0] 30), by simp [go_sem], RB.alloc _ _, w'.heap.size, rfl, by have := hR.size; omega, hb2_new w' _ _⟩
  · intro ev w' v hR E hp'
    obtain ⟨_, _, _, _, _, _, _, _, _, _, ⟨v1, v2, e10, l1, l2⟩, ⟨bb, e11, hbb, vB⟩, _⟩ := hp'
    have E3 := E.at_ 11 3 rfl (by kernel_rfl) (Nat.le_of_ble_eq_true (by kernel_rfl))
    have E14 := E.at_ 10 14 rfl (by kernel_rfl) (Nat.le_of_ble_eq_true (by kernel_rfl))
    rw [e11] at E3
    rw [e10] at E14
    have hone : ∀ v ∈ [v1, v2], v.oneCell' = true := by
      obtain ⟨_, _, q1, _⟩ := l1
      obtain ⟨_, _, q2, _⟩ := l2
      intro v hv
      simp at hv
      rcases hv with rfl | rfl
      · rw [q1]; rfl
      · rw [q2]; rfl
    have hg := gr_setL bb [v1, v2] 0 w'
    have vN := vhas_box [v1, v2] vB
    have hT : ∀ x, some bb = some x → Typed w' x 30 := fun x e => by cases e; exact vB.typed
    refine ⟨setL w' bb 0 [v1, v2], exec_box [v1, v2] rfl E3 E14 vB (by kernel_rfl) hone, bb, v1, v2, e11, hbb, vN, ?_, ?_, ?_, (vA.next hR).gr hg hT (by decide), (vR.next hR).gr hg hT (by decide)⟩
    · obtain ⟨a1, c1, q1, h1⟩ := l1
      exact ⟨a1, c1, q1, h1.gr hg hT (by decide)⟩
    · obtain ⟨a2, c2, q2, h2⟩ := l2
      exact ⟨a2, c2, q2, h2.gr hg hT (by decide)⟩
    · exact below_row (below_next hA nl hR) hg (fun x e => by cases e; omega)
  · rintro v w5 ⟨bb, v1, v2, e11, hbb, vB, l1, l2, hA5, vA5, vR5⟩
    simp only [List.size_toArray, List.length_cons, List.length_nil, Nat.reduceAdd, Nat.reduceSub, List.take_succ_cons, List.take_zero, putL, e11, Act.put, List.setIfInBounds_toArray, List.set_cons_zero, List.set_cons_succ]
    go_wp2_with fail
    obtain ⟨a1, c1, rfl, h1⟩ := l1
    obtain ⟨a2, c2, rfl, h2⟩ := l2
    have hd5 : RB w5 w5.drew := (Below.refl _ _).drew
    replace hA5 := below_next hA5 nl hd5
    replace vA5 := vA5.next hd5
    replace vR5 := vR5.next hd5
    replace vB := vB.next hd5
    replace h1 := h1.next hd5
    replace h2 := h2.next hd5
    have hb5 : w.heap.size ≤ w5.drew.heap.size := hA5.size
    refine region_store (by kernel_rfl) (by kernel_rfl) (by kernel_rfl) RB RB.refl RB.trans
      [fun v _ => v = .pointer (some ⟨w.heap.size, 0, none⟩), fun v _ => v = .agg #[.int .i64 p, .slice ao n cap], CpG p n (fun j => Value.int .i64 (ar F T G j)), fun v _ => v = .agg #[.slice a1 k c1, .slice a2 m c2], fun v _ => v = .pointer (some ⟨w.heap.size, 4, none⟩), fun v _ => v = .int .i64 V, LE w.heap.size 9, fun v _ => v = .pointer (some ⟨w.heap.size, 5, none⟩), fun v _ => v = .slice so t scap, LO w.heap.size 9 1 t (fun j => Value.string (S j)), fun v w' => ∃ aG cG aS cS, v = .agg #[.int .i64 p, .slice aG n cG, .slice a1 k c1, .slice a2 m c2, .int .i64 V, .slice aS t cS] ∧ TRow w' 67 aG (n * 3) (fun j => Value.int .i64 (ar F T G j)) ∧ GOwn w' w.heap.size 9 1 aS t cS (fun j => Value.string (S j))]
      ⟨fun _ _ _ h _ => h, fun _ _ _ h _ => h, CpG.rb, fun _ _ _ h _ => h, fun _ _ _ h _ => h, fun _ _ _ h _ => h, LE.rb, fun _ _ _ h _ => h, fun _ _ _ h _ => h, LO.rb, fun _ _ _ h hb => by
        obtain ⟨aG, cG, aS, cS, e, g1, g2⟩ := h
        exact ⟨aG, cG, aS, cS, e, g1.next hb, g2.next hb⟩, trivial⟩ rfl ?_ _ rfl rfl rfl
      (fun v w'' => ∃ aG cG aS cS, VHas w'' (w.heap.size + 1) 33 6 (lf [.int .i64 p, .slice aG n cG, .slice a1 k c1, .slice a2 m c2, .int .i64 V, .slice aS t cS]) ∧ TRow w'' 67 aG (n * 3) (fun j => Value.int .i64 (ar F T G j)) ∧ TRow w'' 2 a1 (k * 1) (fun j => Value.int .i64 (P j)) ∧ TRowC w'' 94 a2 (m * 2) (fun j => Value.int .i64 (er L H j)) m c2 ∧ GOwn w'' w.heap.size 9 1 aS t cS (fun j => Value.string (S j)) ∧ Below w.heap.size w w'') ?_ ?_
    · simp only [List.size_toArray, List.length_cons, List.length_nil, Nat.reduceAdd, Nat.reduceSub, List.take_succ_cons, List.take_zero]
      refine allOk_cons ?_ (allOk_cons ?_ (allOk_cons ?_ (allOk_cons ?_ (allOk_cons ?_ (allOk_cons ?_ (allOk_cons ?_ (allOk_cons ?_ (allOk_cons ?_ (allOk_cons ?_ (allOk_cons ?_ allOk_nil))))))))))
      · exact OpOk.get RB.refl _ (fun _ => rfl) fun ev w' v hR E pr => by simp [go_sem, E.was 1 _]
      · exact OpOk.get RB.refl _ (fun _ => rfl) fun ev w' v hR E pr => by
          have e1 : ev (.tmp 15) = _ := E.get pr 0 15
          have c0 := (vA5.next hR).cell (j := 0) (by omega)
          have c1 := (vA5.next hR).cell (j := 1) (by omega)
          simp [sv6] at c0 c1
          simp [go_sem, e1, c0, c1]
      · refine OpOk.call rfl fun ev w' v hR E pr => ?_
        have e1 : ev (.tmp 16) = _ := E.get pr 1 16
        refine ⟨45, #[.agg #[.int .i64 p, .slice ao n cap]], by simp [go_sem, e1, E.fn], (l1Copy_any p ao n cap F T G hn _ (hr.below (below_next hA5 nl hR) nl)).mono ?_⟩
        rintro e w2 ⟨g, cG, rfl, _, _, hH, hb⟩
        exact ⟨_, rfl, hb, g, cG, rfl, fun hm => ⟨g, rfl, hH (by omega)⟩⟩
      · exact OpOk.get RB.refl _ (fun _ => rfl) fun ev w' v hR E pr => by
          have e1 : ev (.tmp 3) = .pointer (some ⟨bb, 0, none⟩) := E.was 3 _
          have c0 := (vB.next hR).cell (j := 0) (by omega)
          have c1 := (vB.next hR).cell (j := 1) (by omega)
          simp [lf] at c0 c1
          simp [go_sem, e1, c0, c1]
      · exact OpOk.get RB.refl _ (fun _ => rfl) fun ev w' v hR E pr => by simp [go_sem, E.was 1 _]
      · exact OpOk.get RB.refl _ (fun _ => rfl) fun ev w' v hR E pr => by
          have e1 : ev (.tmp 19) = _ := E.get pr 4 19
          have c0 := (vA5.next hR).cell (j := 4) (by omega)
          simp [sv6] at c0
          simp [go_sem, e1, c0]
      · exact OpOk.val rfl fun ev w' v hR E pr => ⟨_, w'.alloc (.cells #[] 9), by simp [go_sem], RB.alloc _ _, LE.new w' _ _ (Nat.le_trans hb5 hR.size)⟩
      · exact OpOk.get RB.refl _ (fun _ => rfl) fun ev w' v hR E pr => by simp [go_sem, E.was 1 _]
      · exact OpOk.get RB.refl _ (fun _ => rfl) fun ev w' v hR E pr => by
          have e1 : ev (.tmp 22) = _ := E.get pr 7 22
          have c0 := (vA5.next hR).cell (j := 5) (by omega)
          simp [sv6] at c0
          simp [go_sem, e1, c0]
      · exact OpOk.cat Tryz.elS _ so t scap _ (fun _ => rfl) ht hb5 6 21 8 23 rfl (fun _ _ h => h) (fun _ _ h => h) (fun w' hR => (hs.below (below_next hA5 nl hR) nl).g) (fun _ _ h => h)
      · refine OpOk.val rfl fun ev w' v hR E pr => ?_
        obtain ⟨g, cG, e2, q2⟩ : CpG p n (fun j => Value.int .i64 (ar F T G j)) (ev (.tmp 17)) w' := E.get pr 2 17
        have e3 : ev (.tmp 18) = _ := E.get pr 3 18
        have e5 : ev (.tmp 20) = _ := E.get pr 5 20
        obtain ⟨aS, cS, e9, q9⟩ : LO w.heap.size 9 1 t (fun j => Value.string (S j)) (ev (.tmp 24)) w' := E.get pr 9 24
        exact ⟨.agg #[.int .i64 p, .slice (some ⟨g, 0, none⟩) n cG, .slice a1 k c1, .slice a2 m c2, .int .i64 V, .slice aS t cS], w', by simp [go_sem, e2, e3, e5, e9], RB.refl _, _, _, _, _, rfl, q2, q9⟩
    · intro ev w' v hR E hp'
      obtain ⟨_, _, _, _, _, _, _, _, _, _, ⟨aG, cG, aS, cS, e10, g1, g2⟩, _⟩ := hp'
      have E2 : ev (.tmp 2) = .pointer (some ⟨w.heap.size + 1, 0, none⟩) := E.was 2 _
      have E25 := E.at_ 10 25 rfl (by kernel_rfl) (Nat.le_of_ble_eq_true (by kernel_rfl))
      rw [e10] at E25
      have vR6 := vR5.next hR
      have hg := gr_setL (w.heap.size + 1) [.int .i64 p, .slice aG n cG, .slice a1 k c1, .slice a2 m c2, .int .i64 V, .slice aS t cS] 0 w'
      have hT : ∀ x, some (w.heap.size + 1) = some x → Typed w' x 33 := fun x e => by cases e; exact vR6.typed
      exact ⟨_, exec_box [.int .i64 p, .slice aG n cG, .slice a1 k c1, .slice a2 m c2, .int .i64 V, .slice aS t cS] rfl E2 E25 vR6 (by kernel_rfl) (by intro v hv; simp at hv; rcases hv with rfl | rfl | rfl | rfl | rfl | rfl <;> rfl), aG, cG, aS, cS, vhas_box _ vR6, g1.gr hg hT (by decide), (h1.next hR).trow.gr hg hT (by decide), ((h2.next hR).gr hg hT (by decide)).trowC, g2.gr hg hT (by decide), below_row (below_next hA5 nl hR) hg (fun x e => by cases e; omega)⟩
    · rintro v w8 ⟨aG, cG, aS, cS, vR8, g1, g2, g3, g4, hA8⟩
      simp only [List.size_toArray, List.length_cons, List.length_nil, Nat.reduceAdd, Nat.reduceSub, List.take_succ_cons, List.take_zero, putL, Act.put, List.setIfInBounds_toArray, List.set_cons_zero, List.set_cons_succ]
      obtain ⟨q0, q1, q2, q3, q4, q5⟩ := vR8.c6
      simp [lf] at q0 q1 q2 q3 q4 q5
      go_wp2
      exact bodyPost_ret (v := .agg #[.int .i64 p, .slice aG n cG, .slice a1 k c1, .slice a2 m c2, .int .i64 V, .slice aS t cS]) (by simp [results, Tryz.results28, go_sem, q0, q1, q2, q3, q4, q5]) rfl ⟨_, _, _, _, _, _, _, _, rfl, g1, g2, g3, g4, hA8⟩
end
section
open Go
def BAns (e : Ending) (P : Prop) : Prop := ∃ v : Bool, e = .returned (.bool v) ∧ (v = true ↔ P)
theorem bans_no {P : Prop} (h : ¬ P) : BAns (.returned (.bool false)) P := ⟨false, rfl, by simp [h]⟩
theorem bans_yes {P : Prop} (h : P) : BAns (.returned (.bool true)) P := ⟨true, rfl, by simp [h]⟩
end
section
open Go.RowKit
attribute [local go_sem ↓] Go.wp_at_zero Go.wp_at_succ
def SameE (n m : Nat) (L H L' H' : Nat → Int) : Prop := n = m ∧ ∀ i, i < n → L i = L' i ∧ H i = H' i
set_option maxHeartbeats 1000000 in
theorem equalE_any (ao ao' : Option Addr) (n m cap cap' : Nat) (L H L' H' : Nat → Int) (hn : n ≤ 1048576) (hm : m ≤ 1048576) (w : World) (hr : ERow w ao n L H) (hr' : ERow w ao' m L' H') :
    Calls Tryz.prog 59 #[.slice ao n cap, .slice ao' m cap'] w fun e w' => BAns e (SameE n m L H L' H') ∧ Below w.heap.size w w' := by
  by_cases hnm : n = m
  rotate_left
  · have HN : Hid (¬ SameE n m L H L' H') := fun h => hnm h.1
    have hnm' : ¬ (n : Int) = (m : Int) := by omega
    go_enter Tryz.func59, Tryz.ntmps59
    go_wp2
    go_ret
    exact ⟨bans_no HN.out, Below.refl _ _⟩
  subst hnm
  go_enter Tryz.func59, Tryz.ntmps59
  go_wp2
  go_loopw [13] (fun x wr => ∃ k : Nat, k ≤ n ∧ x = .int .i64 k ∧ (∀ i, i < k → L i = L' i ∧ H i = H' i) ∧ Below w.heap.size w wr) (fun x _ => n - (intOf x).toNat)
  case atStart => exact ⟨0, Nat.zero_le _, rfl, fun i hi => by omega, Below.refl _ _⟩
  case round =>
    obtain ⟨k, hk, rfl, hall, hbel⟩ := hrel
    have HA : Hid (∀ i, i < k → L i = L' i ∧ H i = H' i) := hall
    clear hall
    by_cases hlt : k < n
    rotate_left
    · have hkn : k = n := by omega
      subst hkn
      go_wp2
      go_ret
      exact ⟨bans_yes ⟨rfl, HA.out⟩, hbel⟩
    obtain ⟨b, o, hao, c0, c1⟩ := (hr.below hbel nl) k hlt
    subst hao
    obtain ⟨b', o', hao', d0, d1⟩ := (hr'.below hbel nl) k hlt
    subst hao'
    have hk1 : (0 : Int) ≤ (k : Int) := by omega
    have hk2 : (k : Int) < (n : Int) := by omega
    by_cases he : L k = L' k ∧ H k = H' k
    · have HE : Hid (L k = L' k ∧ H k = H' k) := he
      obtain ⟨e1, e2⟩ := he
      rw [← e1] at d0
      rw [← e2] at d1
      clear e1 e2
      go_wp2
      go_quiet (fail)
      go_wp2
      go_roundw
      case rel => exact ⟨k + 1, by omega, by go_num, fun i hi => by
        by_cases x : i = k
        · subst x; exact HE.out
        · exact HA.out i (by omega), below_drewN hbel _⟩
      case measure => simp [intOf]; omega
    · have HE : Hid (¬ SameE n n L H L' H') := fun h => he (h.2 k hlt)
      by_cases h1 : L k = L' k
      · have h2 : ¬ H k = H' k := fun h => he ⟨h1, h⟩
        rw [← h1] at d0
        clear h1 he
        go_wp2
        go_quiet (fail)
        go_wp2
        go_ret
        exact ⟨bans_no HE.out, below_drewN hbel _⟩
      · clear he
        go_wp2
        go_quiet (fail)
        go_wp2
        go_ret
        exact ⟨bans_no HE.out, below_drewN hbel _⟩
end
end Go.Proofs.YthmpliljffmmcaaGreatDoor
