/-
  Helpers, merged: Core, Small, Base, Keys, Has, Mark, In, Ok, OkSpec, OkP, OkA, OkI, OkImpl, Copy2, Map, Nums, LWt, Weigh.
-/
import Derived.Test.YticckgmkhgnmfaaDoorRows
import Derived.WalkKit
import Derived.WalkSpells
import Derived.WalkLawsBesides
import Derived.Deep.RegionHeld3
import Derived.Deep.OwnRows
import Derived.Deep.QuietTactic
import Derived.BigQuiet
import Derived.Deep.DrawnRows
import Derived.ProofKit
import Derived.OpenShut
import Derived.ChangeOld
import Derived.Deep.Slices
import Derived.Deep.Strs
import Derived.Lib.SmallJoins
import Derived.Maps.Own
import Derived.Maps.OwnOps
import Derived.Maps.OwnSet
import Derived.Maps.Views
import Derived.DeepKeys4
import Derived.Laws.CopyOwn
import Derived.Maps.AppendAt
import Derived.Maps.Range
import Derived.Deep.AppendLies
/-
  What needs no function of the program: cells of an older world in a later one, numbers in bounds, two pairs in their order.
-/
set_option linter.unusedVariables false
set_option linter.unusedSimpArgs false
namespace Go.Proofs.YticckgmkhgnmfaaDoor
open Go.RowKit

theorem lt_of_cell {w : World} {b o : Nat} {v : Value} (h : w.cell? ⟨b, o, none⟩ = some v) : b < w.heap.size := by
  by_cases hb : b < w.heap.size
  · exact hb
  · simp [World.cell?, Array.getElem?_eq_none (Nat.le_of_not_lt hb)] at h
/-- Behind a call that has turned nothing old: all old cells and marks read as before. -/
theorem bcell {W w1 : World} (hb : Below W.heap.size W w1) : (∀ b o, b < W.heap.size → w1.cell? ⟨b, o, none⟩ = W.cell? ⟨b, o, none⟩) ∧ (∀ b o, b < W.heap.size → w1.frozen? ⟨b, o, none⟩ = W.frozen? ⟨b, o, none⟩) :=
  ⟨fun _ _ h => hb.cell h, fun _ _ h => hb.frozen h⟩
/-- So far k arcs have been copied; behind them all is nought. -/
def upto (f : Nat → Int) (m j : Nat) : Int := if j < m then f j else 0
def inB (x lo hi : Int) : Bool := decide (lo ≤ x) && decide (x ≤ hi)
def upB (f t f' t' : Int) : Bool := decide (f < f') || (f == f' && decide (t < t'))
theorem upB_yes1 {f t f' t' : Int} (h : f < f') : upB f t f' t' = true := by simp [upB, h]
theorem upB_yes2 {f t f' t' : Int} (h : f ≤ f') (h' : f' ≤ f) (ht : t < t') : upB f t f' t' = true := by
  have : f = f' := by omega
  simp [upB, this, ht]
theorem upB_no1 {f t f' t' : Int} (h : f' < f) : upB f t f' t' = false := by simp [upB]; omega
theorem upB_no2 {f t f' t' : Int} (h : f ≤ f') (h' : f' ≤ f) (ht : t' ≤ t) : upB f t f' t' = false := by simp [upB]; omega
theorem ret_bool {a b : Bool} (h : a = b) : Ending.returned (.bool a) = .returned (.bool b) := by rw [h]
/-- Behind the box of its argument a function has turned nothing old. -/
theorem unbox {w w' : World} {o : Obj} {B : Nat} (h : Below B (w.alloc o) w') (hB : w.heap.size ≤ B) : Below w.heap.size w w' :=
  ((Below.refl _ _).alloc (Nat.le_refl _) _).trans (h.mono hB)
theorem three_lt {w wr w1 : World} {o : Obj} {b : Nat} (h : Below (wr.alloc o).heap.size (wr.alloc o) w1) (h1 : w.heap.size < wr.heap.size) (h2 : b < wr.heap.size) : wr.heap.size < w1.heap.size ∧ w.heap.size < w1.heap.size ∧ b < w1.heap.size := by
  have := h.size; simp at this; omega
theorem keep_cell {W W' : World} {B b o : Nat} {v : Value} (hb : Below B W W') (hB : W.heap.size ≤ B) (h : W.cell? ⟨b, o, none⟩ = some v) : W'.cell? ⟨b, o, none⟩ = some v := by
  have := lt_of_cell h
  rw [hb.cell (by simp; omega)]; exact h
theorem below_next {B : Nat} {a W W' : World} (h : Below B a W) (hB : B ≤ a.heap.size) (hb : Below W.heap.size W W') : Below B a W' := h.trans (hb.mono (Nat.le_trans hB h.size))
/-- The box of an argument of two cells, in a later world. -/
theorem box2 {w W : World} {a0 a1 : Value} {t : TypeId} (h : Below (w.heap.size + 1) (w.alloc (.cells #[a0, a1] t)) W) :
    W.cell? ⟨w.heap.size, 0, none⟩ = some a0 ∧ W.cell? ⟨w.heap.size, 1, none⟩ = some a1 ∧ w.heap.size < W.heap.size := by
  refine ⟨by rw [h.cell (by simp)]; simp [go_sem], by rw [h.cell (by simp)]; simp [go_sem], by have := h.size; simp at this; omega⟩
theorem boxed {w W : World} {o : Obj} (h : Below (w.alloc o).heap.size (w.alloc o) W) : Below (w.heap.size + 1) (w.alloc o) W := h.mono (by simp)

end Go.Proofs.YticckgmkhgnmfaaDoor

/-
  The small functions of the exact laws of chapter 1: what each call answers, and that nothing that was there has turned. No condition but those that each theorem names.
-/
set_option linter.unusedVariables false
set_option linter.unusedSimpArgs false
namespace Go.Proofs.YticckgmkhgnmfaaDoor
open Go.RowKit


/-- Cell j of n arcs that lie one behind the other. -/
def ar (F T G : Nat → Int) (j : Nat) : Int := if j % 3 = 0 then F (j / 3) else if j % 3 = 1 then T (j / 3) else G (j / 3)
theorem ar0 (F T G : Nat → Int) (k : Nat) : ar F T G (k * 3) = F k := by
  unfold ar; rw [if_pos (by omega)]; congr 1; omega
theorem ar1 (F T G : Nat → Int) (k : Nat) : ar F T G (k * 3 + 1) = T k := by
  unfold ar; rw [if_neg (by omega), if_pos (by omega)]; congr 1; omega
theorem ar2 (F T G : Nat → Int) (k : Nat) : ar F T G (k * 3 + 2) = G k := by
  unfold ar; rw [if_neg (by omega), if_neg (by omega)]; congr 1; omega

/-- n arcs lie behind a slice's address. -/
def Row (w : World) (ao : Option Addr) (n : Nat) (F T G : Nat → Int) : Prop := ∀ k, k < n → ∃ b o, ao = some ⟨b, o, none⟩ ∧
  w.cell? ⟨b, o + k * 3, none⟩ = some (.int .i64 (F k)) ∧ w.cell? ⟨b, o + k * 3 + 1, none⟩ = some (.int .i64 (T k)) ∧ w.cell? ⟨b, o + k * 3 + 2, none⟩ = some (.int .i64 (G k))

theorem Row.below {w w' : World} {B : Nat} {ao : Option Addr} {n : Nat} {F T G : Nat → Int} (h : Row w ao n F T G) (hb : Below B w w') (hB : w.heap.size ≤ B) : Row w' ao n F T G := fun k hk => by
  obtain ⟨b, o, e, c0, c1, c2⟩ := h k hk
  have hlt := lt_of_cell c0
  exact ⟨b, o, e, by rw [hb.cell (by simp; omega)]; exact c0, by rw [hb.cell (by simp; omega)]; exact c1, by rw [hb.cell (by simp; omega)]; exact c2⟩

theorem Row.alloc {w : World} {ao : Option Addr} {n : Nat} {F T G : Nat → Int} (h : Row w ao n F T G) (o : Obj) : Row (w.alloc o) ao n F T G := h.below ((Below.refl w.heap.size w).alloc (Nat.le_refl _) o) (Nat.le_refl _)

/-- n arcs of the call's own, in a block of their own. -/
def Own (w : World) (b n : Nat) (f : Nat → Int) : Prop := w.rowIs b 82 (n * 3) (fun j => .int .i64 (f j))

theorem Own.row {w : World} {b n : Nat} {F T G : Nat → Int} (h : Own w b n (ar F T G)) : Row w (some ⟨b, 0, none⟩) n F T G := fun k hk => by
  refine ⟨b, 0, rfl, ?_, ?_, ?_⟩
  · have := World.rowIs.cell h (i := k * 3) (by omega); rw [ar0] at this; simpa using this
  · have := World.rowIs.cell h (i := k * 3 + 1) (by omega); rw [ar1] at this; simpa using this
  · have := World.rowIs.cell h (i := k * 3 + 2) (by omega); rw [ar2] at this; simpa using this

theorem Own.below {w w' : World} {b n : Nat} {f : Nat → Int} (h : Own w b n f) (hb : Below w.heap.size w w') : Own w' b n f := World.rowIs.of_block h (hb.block b (World.rowIs.lt h))

theorem Own.three {w : World} {b n k : Nat} {F T G : Nat → Int} (h : Own w b n (upto (ar F T G) (k * 3))) (hk : k < n) :
    Own (((w.setCell ⟨b, k * 3, none⟩ (.int .i64 (F k))).setCell ⟨b, k * 3 + 1, none⟩ (.int .i64 (T k))).setCell ⟨b, k * 3 + 2, none⟩ (.int .i64 (G k))) b n (upto (ar F T G) ((k + 1) * 3)) := by
  refine (((World.rowIs.set h (k * 3) _).set (k * 3 + 1) _).set (k * 3 + 2) _).congr fun j hj => ?_
  by_cases e2 : j = k * 3 + 2
  · subst e2; simp only [if_pos]; unfold upto; rw [if_pos (by omega), ar2]
  by_cases e1 : j = k * 3 + 1
  · subst e1; rw [if_neg (by omega), if_pos rfl]; unfold upto; rw [if_pos (by omega), ar1]
  by_cases e0 : j = k * 3
  · subst e0; rw [if_neg (by omega), if_neg (by omega), if_pos rfl]; unfold upto; rw [if_pos (by omega), ar0]
  rw [if_neg e2, if_neg e1, if_neg e0]; unfold upto
  by_cases hl : j < k * 3
  · rw [if_pos hl, if_pos (by omega)]
  · rw [if_neg hl, if_neg (by omega)]

theorem Tryd.infoArc : (Tryd.prog.info? 82).map (fun i => (i.zero, i.size, i.bytes)) = some (some (.agg #[.int .i64 0, .int .i64 0, .int .i64 0]), 3, 24) := by kernel_rfl

theorem made_own (w : World) (n : Nat) (f : Nat → Int) : Own (w.alloc (.cells (madeCells #[.int .i64 0, .int .i64 0, .int .i64 0] (n * 3)) 82)) w.heap.size n (upto f 0) := by
  refine ⟨_, Go.Deep.blk_alloc_new _ _, size_madeCells _ _, fun i hi => ?_⟩
  have h3 : i % 3 = 0 ∨ i % 3 = 1 ∨ i % 3 = 2 := by omega
  simp [madeCells, hi, upto]
  rcases h3 with h | h | h <;> simp [h]

theorem make_arcs (n : Nat) (hn : n ≤ 1048576) (w : World) :
    (Instr.makeSlice 38 (.int .i64 (n : Int)) (.int .i64 (n : Int))).run Tryd.prog w = .ok (.slice (some ⟨w.heap.size, 0, none⟩) n n) (w.alloc (.cells (madeCells #[.int .i64 0, .int .i64 0, .int .i64 0] (n * 3)) 82)) := by
  obtain ⟨i, hi, hz0, hz1, hz2⟩ := info_parts Tryd.infoArc
  have hr := run_make (P := Tryd.prog) w 38 82 i _ Tryd.underlying38 hi hz0 .i64 .i64 n n (by omega) (Int.le_refl _) (by rw [hz2]; omega) (by omega)
  simpa [hz1, Value.cells] using hr

end Go.Proofs.YticckgmkhgnmfaaDoor

/-
  What every law's shell asks of the program as a whole, and the size of a number.
-/
set_option linter.unusedVariables false
set_option linter.unusedSimpArgs false
namespace Go.Proofs.YticckgmkhgnmfaaDoor
open Go.ChangeShapes Go.WideShapes Go.ChangeAt Go.RowKit Go.Deep Go.Joins

theorem Tryd.own : ownKnob Tryd.prog.godebug = none := by kernel_rfl
theorem Tryd.laidOut : laidOutB Tryd.prog = true := by kernel_rfl
theorem Tryd.cellsInt : Tryd.prog.cellsOf 2 = 1 := by kernel_rfl

theorem gr_setCell (w : World) (b o : Nat) (v : Value) : w.grownBy (w.setCell ⟨b, o, none⟩ v) (some b) :=
  ⟨rfl, rfl, rfl, by simp [World.setCell], fun k _ hne => Below.heap_setCell _ _ _ _ (fun e => hne (by rw [e]))⟩
theorem gr_below {w w' : World} {b B : Nat} (h : w.grownBy w' (some b)) (hb : B ≤ b) (hB : B ≤ w.heap.size) : Below B w w' :=
  ⟨h.os, h.tape, h.output, h.size, fun k hk => h.block k (by omega) (fun e => by simp at e; omega)⟩

end Go.Proofs.YticckgmkhgnmfaaDoor

/-
  Keys of two numbers, and maps of the call's own in a later world: no function of the program.
-/
set_option linter.unusedVariables false
set_option linter.unusedSimpArgs false
namespace Go.Proofs.YticckgmkhgnmfaaDoor
open Go.ChangeShapes Go.WideShapes Go.ChangeAt Go.RowKit Go.Maps

theorem key_two {P : Program} {k : TypeId} {f0 f1 : Field} (hs : P.underlying k = some (.struct #[f0, f1])) (hk : P.keyType k = true) (hC : P.cellsOf k = 2) (h0 : P.underlying f0.type = some (.int .i64)) (h1 : P.underlying f1.type = some (.int .i64))
    (o0 : f0.offset = 0) (o1 : f1.offset = 1) (c0 : P.cellsOf f0.type = 1) (c1 : P.cellsOf f1.type = 1) (n0 : (f0.name != "_") = true) (n1 : (f1.name != "_") = true) (hm : ∃ m, P.types.size = m + 1)
    {f t : Int} (hf : (Lit.int .i64 f).wf = true) (ht : (Lit.int .i64 t).wf = true) : keyOf P k (.agg #[.int .i64 f, .int .i64 t]) = some (.string (keyBytes [.int .i64 f, .int .i64 t])) := by
  obtain ⟨m, hm⟩ := hm
  simp at n0 n1
  simp [keyOf, hs, hk, Value.formed, hC, Value.cells, hm, Program.keyLits, h0, h1, o0, o1, c0, c1, n0, n1, hf, ht]

theorem ownsMap_block {H : Type} {P : Program} {k : TypeId} {R : Value → Option (DataW H × List MemPlace)} {b n : Nat} {D : DataW H} {w w' : World} (h : w.ownsMap P k R b n D) (e : w'.heap[b]? = w.heap[b]?) : w'.ownsMap P k R b n D := by
  unfold World.ownsMap at h ⊢
  rw [e]; exact h
theorem ownsMap_below {H : Type} {P : Program} {k : TypeId} {R : Value → Option (DataW H × List MemPlace)} {b n : Nat} {D : DataW H} {w w' : World} (h : w.ownsMap P k R b n D) (hb : Below w.heap.size w w') : w'.ownsMap P k R b n D :=
  ownsMap_block h (hb.block b h.lt)

end Go.Proofs.YticckgmkhgnmfaaDoor

/-
  Memory of the call's own that holds arcs: read, written, and left alone; the laws' marks in it.
-/
set_option linter.unusedVariables false
set_option linter.unusedSimpArgs false
namespace Go.Proofs.YticckgmkhgnmfaaDoor
open Go.RowKit Go.Maps

/-- Block b begins with n arcs' cells, may be written, and holds the numbers f. -/
def Has (w : World) (b n : Nat) (f : Nat → Int) : Prop := ∃ cur : Array Value, w.heap[b]? = some (.cells cur 82 (0, 0)) ∧ n * 3 ≤ cur.size ∧ ∀ j, j < n * 3 → cur[j]? = some (.int .i64 (f j))

theorem Has.of_own {w : World} {b n : Nat} {f : Nat → Int} (h : Own w b n f) : Has w b n f := by
  obtain ⟨c, hb, hn, hc⟩ := h
  exact ⟨c, hb, by omega, hc⟩
theorem Has.cell {w : World} {b n : Nat} {f : Nat → Int} (h : Has w b n f) {j : Nat} (hj : j < n * 3) : w.cell? ⟨b, j, none⟩ = some (.int .i64 (f j)) := by
  obtain ⟨c, hb, _, hc⟩ := h
  simp [World.cell?, hb, hc j hj]
theorem Has.frozen {w : World} {b n : Nat} {f : Nat → Int} (h : Has w b n f) (j : Nat) : w.frozen? ⟨b, j, none⟩ = false := by
  obtain ⟨c, hb, _, _⟩ := h
  simp [World.frozen?, hb]
theorem Has.lt {w : World} {b n : Nat} {f : Nat → Int} (h : Has w b n f) : b < w.heap.size := by
  obtain ⟨c, hb, _, _⟩ := h
  exact (Array.getElem?_eq_some_iff.1 hb).1
theorem Has.of_block {w w' : World} {b n : Nat} {f : Nat → Int} (h : Has w b n f) (e : w'.heap[b]? = w.heap[b]?) : Has w' b n f := by
  obtain ⟨c, hb, hn, hc⟩ := h
  exact ⟨c, e.trans hb, hn, hc⟩
theorem Has.congr {w : World} {b n : Nat} {f g : Nat → Int} (h : Has w b n f) (e : ∀ j, j < n * 3 → f j = g j) : Has w b n g := by
  obtain ⟨c, hb, hn, hc⟩ := h
  exact ⟨c, hb, hn, fun j hj => by rw [hc j hj, e j hj]⟩
theorem Has.set {w : World} {b n : Nat} {f : Nat → Int} (h : Has w b n f) (i : Nat) (v : Int) : Has (w.setCell ⟨b, i, none⟩ (.int .i64 v)) b n (fun j => if j = i then v else f j) := by
  obtain ⟨c, hb, hn, hc⟩ := h
  refine ⟨c.setIfInBounds i (.int .i64 v), ?_, by simpa using hn, fun j hj => ?_⟩
  · simp [World.setCell, Array.getElem?_modify, hb]
  · rw [Array.getElem?_setIfInBounds]
    by_cases e : j = i
    · subst e
      simp; omega
    · rw [if_neg (fun h => e h.symm)]
      show c[j]? = some (.int .i64 (if j = i then v else f j))
      rw [if_neg e]
      exact hc j hj
theorem Has.row {w : World} {b n : Nat} {F T G : Nat → Int} (h : Has w b n (ar F T G)) : Row w (some ⟨b, 0, none⟩) n F T G := fun k hk => by
  refine ⟨b, 0, rfl, ?_, ?_, ?_⟩
  · have := h.cell (j := k * 3) (by omega); rw [ar0] at this; simpa using this
  · have := h.cell (j := k * 3 + 1) (by omega); rw [ar1] at this; simpa using this
  · have := h.cell (j := k * 3 + 2) (by omega); rw [ar2] at this; simpa using this
theorem Has.below {w w' : World} {b n B : Nat} {f : Nat → Int} (h : Has w b n f) (hb : Below B w w') (hB : b < B) : Has w' b n f := h.of_block (hb.block b hB)
theorem Has.grown {w w' : World} {b n : Nat} {f : Nat → Int} {row : Option Nat} (h : Has w b n f) (hg : w.grownBy w' row) (hne : some b ≠ row) : Has w' b n f := h.of_block (hg.block b h.lt hne)

theorem grown_setCell (w : World) (b o : Nat) (v : Value) : w.grownBy (w.setCell ⟨b, o, none⟩ v) (some b) :=
  ⟨rfl, rfl, rfl, by simp [World.setCell], fun k _ hne => Below.heap_setCell _ _ _ _ (fun e => hne (by rw [e]))⟩
theorem grown_below {w w' : World} {b B : Nat} (h : w.grownBy w' (some b)) (hb : B ≤ b) (hB : B ≤ w.heap.size) : Below B w w' :=
  ⟨h.os, h.tape, h.output, h.size, fun k hk => h.block k (by omega) (fun e => by simp at e; omega)⟩
theorem below_grown {w w' : World} {row : Option Nat} (h : Below w.heap.size w w') : w.grownBy w' row := ⟨h.os, h.tape, h.output, h.size, fun k hk _ => h.block k hk⟩
theorem grown_drew (w : World) (row : Option Nat) : w.grownBy w.drew row := ⟨rfl, rfl, rfl, Nat.le_refl _, fun _ _ _ => rfl⟩
theorem Row.grown {w w' : World} {ao : Option Addr} {n b B : Nat} {F T G : Nat → Int} (h : Row w ao n F T G) (hg : w.grownBy w' (some b)) (hB : ∀ a, ao = some a → 0 < n → a.block < b) : Row w' ao n F T G := fun k hk => by
  obtain ⟨b', o, e, c0, c1, c2⟩ := h k hk
  have hlt := hB _ e (by omega)
  have hne : some b' ≠ some b := fun e => by simp at e; simp at hlt; omega
  exact ⟨b', o, e, hg.cell c0 hne, hg.cell c1 hne, hg.cell c2 hne⟩

/-- n arcs behind a slice are the call's own, from block B on. -/
def OwnS (w : World) (B : Nat) (ao : Option Addr) (n : Nat) (f : Nat → Int) : Prop := ∀ k, k < n → ∃ b, ao = some ⟨b, 0, none⟩ ∧ B ≤ b ∧ Has w b n f
theorem OwnS.row {w : World} {B n : Nat} {ao : Option Addr} {F T G : Nat → Int} (h : OwnS w B ao n (ar F T G)) : Row w ao n F T G := fun k hk => by
  obtain ⟨b, e, _, hh⟩ := h k hk
  subst e
  exact hh.row k hk

/-- The marks: cell j holds k + j. -/
def mk (k : Int) (j : Nat) : Int := k + j


end Go.Proofs.YticckgmkhgnmfaaDoor

/-
  The laws' marks in an answer's memory, and the look whether they are still held; copies of arcs.
-/
set_option linter.unusedVariables false
set_option linter.unusedSimpArgs false
namespace Go.Proofs.YticckgmkhgnmfaaDoor
open Go.RowKit Go.Maps
attribute [local go_sem ↓] Go.wp_at_zero Go.wp_at_succ

theorem grown_unbox {w w' : World} {o : Obj} {b : Nat} (h : (w.alloc o).grownBy w' (some b)) : w.grownBy w' (some b) := (World.grownBy_alloc w o _).trans h


/-- The cells of n arcs, one behind the other. -/
def cellsOf (f : Nat → Int) (m : Nat) : List Value := (List.range m).map fun j => .int .i64 (f j)
theorem Row.news {w : World} {b o n : Nat} {F T G : Nat → Int} (hr : Row w (some ⟨b, o, none⟩) n F T G) : ∀ j u, (cellsOf (ar F T G) (n * 3))[j]? = some u → w.cell? ((⟨b, o, none⟩ : Addr).add j) = some u := fun j u hu => by
  have hj : j < n * 3 := by
    have := (List.getElem?_eq_some_iff.1 hu).1
    simpa [cellsOf] using this
  have hu' : u = .int .i64 (ar F T G j) := by
    rw [cellsOf, List.getElem?_map, List.getElem?_range hj] at hu
    simpa using hu.symm
  subst hu'
  obtain ⟨b', o', e, c0, c1, c2⟩ := hr (j / 3) (by omega)
  simp at e
  obtain ⟨rfl, rfl⟩ := e
  rw [Addr.add_mid]
  have h3 : j % 3 = 0 ∨ j % 3 = 1 ∨ j % 3 = 2 := by omega
  unfold ar
  rcases h3 with h | h | h
  · rw [if_pos h, ← c0]; congr 2; omega
  · rw [if_neg (by omega), if_pos h, ← c1]; congr 2; omega
  · rw [if_neg (by omega), if_neg (by omega), ← c2]; congr 2; omega
theorem cellsOf_one (f : Nat → Int) (m : Nat) : ∀ u ∈ cellsOf f m, u.oneCell' = true := fun u hu => by
  simp [cellsOf] at hu
  obtain ⟨_, _, rfl⟩ := hu
  rfl

end Go.Proofs.YticckgmkhgnmfaaDoor

/-
  Is a number within two others: the document's and the program's question. No condition.
-/
set_option linter.unusedVariables false
set_option linter.unusedSimpArgs false
namespace Go.Proofs.YticckgmkhgnmfaaDoor
open Go.RowKit

theorem l1In_any (x lo hi : Int) (w : World) :
    Calls Tryd.prog 21 #[.int .i64 x, .int .i64 lo, .int .i64 hi] w fun e w' => e = .returned (.bool (inB x lo hi)) ∧ w' = w := by
  by_cases h1 : lo ≤ x <;> by_cases h2 : x ≤ hi <;>
  · go_enter Tryd.func21, Tryd.ntmps21
    go_wp2
    go_ret
    exact ⟨by simp [inB, h1, h2], rfl⟩
theorem placeOk_any (x p : Int) (w : World) :
    Calls Tryd.prog 70 #[.int .i64 x, .int .i64 p] w fun e w' => e = .returned (.bool (inB x 0 (p - 1))) ∧ w' = w := by
  by_cases h1 : 0 ≤ x <;> by_cases h2 : x < p <;>
  · go_enter Tryd.func70, Tryd.ntmps70
    go_wp2
    go_ret
    exact ⟨by simp [inB, h1]; omega, rfl⟩

end Go.Proofs.YticckgmkhgnmfaaDoor

/-
  GraphOk: the document's and the program's, each held against one plain function of the arcs.
-/
set_option linter.unusedVariables false
set_option linter.unusedSimpArgs false
namespace Go.Proofs.YticckgmkhgnmfaaDoor
open Go.RowKit

def arcB (f t g p : Int) : Bool := inB f 0 (p - 1) && (inB t 0 (p - 1) && (f != t && inB g 1 1000000))
def arcsB (p : Int) (F T G : Nat → Int) : Nat → Bool
  | 0 => true
  | k + 1 => arcsB p F T G k && (arcB (F k) (T k) (G k) p && (k == 0 || upB (F (k - 1)) (T (k - 1)) (F k) (T k)))
def graphB (p : Int) (n : Nat) (F T G : Nat → Int) : Bool := inB p 1 24 && (decide (n ≤ 100) && arcsB p F T G n)
set_option maxHeartbeats 800000 in
theorem l1Arc_any (f t g p : Int) (hp : 1 ≤ p) (hp' : p ≤ 24) (w : World) :
    Calls Tryd.prog 54 #[.agg #[.int .i64 f, .int .i64 t, .int .i64 g], .int .i64 p] w fun e w' => e = .returned (.bool (arcB f t g p)) ∧ Below w.heap.size w w' := by
  unfold arcB
  rcases Bool.eq_false_or_eq_true (inB f 0 (p - 1)) with h1 | h1
  · rcases Bool.eq_false_or_eq_true (inB t 0 (p - 1)) with h2 | h2
    · rcases Bool.eq_false_or_eq_true (f != t) with h3 | h3 <;>
      · go_enter Tryd.func54, Tryd.ntmps54
        go_wp2_with (go_at_call 21; refine (l1In_any _ _ _ _).mono ?_; rintro e w1 ⟨rfl, rfl⟩)
        go_ret
        exact ⟨by simp [h1, h2, h3], (Below.refl _ _).alloc (Nat.le_refl _) _⟩
    · go_enter Tryd.func54, Tryd.ntmps54
      go_wp2_with (go_at_call 21; refine (l1In_any _ _ _ _).mono ?_; rintro e w1 ⟨rfl, rfl⟩)
      go_ret
      exact ⟨by simp [h1, h2], (Below.refl _ _).alloc (Nat.le_refl _) _⟩
  · go_enter Tryd.func54, Tryd.ntmps54
    go_wp2_with (go_at_call 21; refine (l1In_any _ _ _ _).mono ?_; rintro e w1 ⟨rfl, rfl⟩)
    go_ret
    exact ⟨by simp [h1], (Below.refl _ _).alloc (Nat.le_refl _) _⟩

end Go.Proofs.YticckgmkhgnmfaaDoor

/-
  The document's GraphOk answers 'graphB' of the map's places and arcs, for every map.
-/
set_option linter.unusedVariables false
set_option linter.unusedSimpArgs false
namespace Go.Proofs.YticckgmkhgnmfaaDoor
open Go.RowKit

theorem arcsB_no {p : Int} {F T G : Nat → Int} {k : Nat} (h : arcB (F k) (T k) (G k) p = false) : ∀ n, k < n → arcsB p F T G n = false
  | 0, hk => by omega
  | n + 1, hk => by
    by_cases e : k = n
    · subst e; simp [arcsB, h]
    · simp [arcsB, arcsB_no h n (by omega)]
theorem arcsB_down {p : Int} {F T G : Nat → Int} {k : Nat} (h0 : 0 < k) (h : upB (F (k - 1)) (T (k - 1)) (F k) (T k) = false) : ∀ n, k < n → arcsB p F T G n = false
  | 0, hk => by omega
  | n + 1, hk => by
    by_cases e : k = n
    · subst e
      have : (k == 0) = false := by simp; omega
      simp [arcsB, h, this]
    · simp [arcsB, arcsB_down h0 h n (by omega)]
theorem arcsB_step {p : Int} {F T G : Nat → Int} {k : Nat} (h : arcsB p F T G k = true) (ha : arcB (F k) (T k) (G k) p = true) (hu : k = 0 ∨ upB (F (k - 1)) (T (k - 1)) (F k) (T k) = true) : arcsB p F T G (k + 1) = true := by
  rcases hu with hu | hu
  · subst hu; simp [arcsB, ha]
  · simp [arcsB, h, ha, hu]
set_option maxHeartbeats 1600000 in
theorem specGraphOk_any (p : Int) (ao : Option Addr) (n cap : Nat) (F T G : Nat → Int) (hn : n ≤ 1048576) (w : World) (hr : Row w ao n F T G) :
    Calls Tryd.prog 32 #[.agg #[.int .i64 p, .slice ao n cap]] w fun e w' => e = .returned (.bool (graphB p n F T G)) ∧ Below w.heap.size w w' := by
  by_cases h1 : inB p 1 24 = true
  rotate_left
  · have h1 : inB p 1 24 = false := by simpa using h1
    go_enter Tryd.func32, Tryd.ntmps32
    go_wp2_with (go_at_call 21; refine (l1In_any _ _ _ _).mono ?_; rintro e w1 ⟨rfl, rfl⟩)
    go_ret
    exact ⟨by simp [graphB, h1], (Below.refl _ _).alloc (Nat.le_refl _) _⟩
  by_cases h2 : n ≤ 100
  rotate_left
  · go_enter Tryd.func32, Tryd.ntmps32
    go_wp2_with (go_at_call 21; refine (l1In_any _ _ _ _).mono ?_; rintro e w1 ⟨rfl, rfl⟩)
    go_ret
    exact ⟨by simp [graphB, h1, h2], (Below.refl _ _).alloc (Nat.le_refl _) _⟩
  have hp : 1 ≤ p ∧ p ≤ 24 := by simpa [inB] using h1
  obtain ⟨hp1, hp2⟩ := hp
  go_enter Tryd.func32, Tryd.ntmps32
  go_wp2_with (go_at_call 21; refine (l1In_any _ _ _ _).mono ?_; rintro e w1 ⟨rfl, rfl⟩)
  go_loopw [3] (fun i wr => ∃ k : Nat, k ≤ n ∧ i = .int .i64 k ∧ arcsB p F T G k = true ∧ Below (w.heap.size + 1) (w.alloc (.cells #[.int .i64 p, .slice ao n cap] 40)) wr) (fun i _ => n - (intOf i).toNat)
  case atStart => exact ⟨0, Nat.zero_le _, rfl, rfl, Below.refl _ _⟩
  case round =>
    obtain ⟨k, hk, rfl, hok, hbel⟩ := hrel
    have g0 : wr.cell? ⟨w.heap.size, 0, none⟩ = some (.int .i64 p) := by rw [hbel.cell (by simp)]; simp [go_sem]
    have g1 : wr.cell? ⟨w.heap.size, 1, none⟩ = some (.slice ao n cap) := by rw [hbel.cell (by simp)]; simp [go_sem]
    have hsz : w.heap.size < wr.heap.size := by have := hbel.size; simp at this; omega
    have HOK : Hid (arcsB p F T G k = true) := hok
    clear hok
    by_cases hlt : k < n
    rotate_left
    · have hkn : k = n := by omega
      subst hkn
      go_wp2
      go_ret
      exact ⟨ret_bool (by simp [graphB, h1, h2, HOK.out]), unbox hbel (by omega)⟩
    obtain ⟨b, o, hao, c0, c1, c2⟩ := ((hr.alloc _).below hbel (by simp)) k hlt
    subst hao
    rcases Bool.eq_false_or_eq_true (arcB (F k) (T k) (G k) p) with ha | ha
    rotate_left
    · go_wp2_with (go_at_call 54; refine (l1Arc_any _ _ _ _ hp1 hp2 _).mono ?_; rintro e w1 ⟨rfl, hb1⟩)
      go_ret
      exact ⟨ret_bool (by simp [graphB, h1, arcsB_no ha n hlt]), unbox ((hbel.alloc (by omega) _).trans (hb1.mono (by simp; omega))) (by omega)⟩
    by_cases h0 : 0 < k
    rotate_left
    · go_wp2_with (go_at_call 54; refine (l1Arc_any _ _ _ _ hp1 hp2 _).mono ?_; rintro e w1 ⟨rfl, hb1⟩)
      go_roundw
      case rel => exact ⟨k + 1, by omega, by go_num, arcsB_step HOK.out ha (Or.inl (by omega)), (hbel.alloc (by omega) _).trans (hb1.mono (by simp; omega))⟩
      case measure => simp [intOf]; omega
    have hbw : b < wr.heap.size := lt_of_cell c0
    obtain ⟨b', o', hao', d0, d1, d2⟩ := ((hr.alloc _).below hbel (by simp)) (k - 1) (by omega)
    simp only [Option.some.injEq, Addr.mk.injEq, and_true] at hao'
    obtain ⟨rfl, rfl⟩ := hao'
    rcases Int.lt_trichotomy (F (k - 1)) (F k) with hF | hF | hF
    · go_wp2_with (go_at_call 54; refine (l1Arc_any _ _ _ _ hp1 hp2 _).mono ?_; rintro e w1 ⟨rfl, hb1⟩; obtain ⟨hc, hf⟩ := bcell hb1; obtain ⟨hz, hz1, hz2⟩ := three_lt hb1 hsz hbw)
      go_roundw
      case rel => exact ⟨k + 1, by omega, by go_num, arcsB_step HOK.out ha (Or.inr (upB_yes1 hF)), ((hbel.alloc (by omega) _).trans (hb1.mono (by simp; omega))).alloc (by omega) _⟩
      case measure => simp [intOf]; omega
    · have hF1 : F (k - 1) ≤ F k := by omega
      have hF2 : F k ≤ F (k - 1) := by omega
      clear hF
      by_cases hT : T k ≤ T (k - 1)
      · go_wp2_with (go_at_call 54; refine (l1Arc_any _ _ _ _ hp1 hp2 _).mono ?_; rintro e w1 ⟨rfl, hb1⟩; obtain ⟨hc, hf⟩ := bcell hb1; obtain ⟨hz, hz1, hz2⟩ := three_lt hb1 hsz hbw)
        go_ret
        exact ⟨ret_bool (by simp [graphB, h1, arcsB_down h0 (upB_no2 hF1 hF2 hT) n hlt]), unbox (((hbel.alloc (by omega) _).trans (hb1.mono (by simp; omega))).alloc (by omega) _) (by omega)⟩
      · go_wp2_with (go_at_call 54; refine (l1Arc_any _ _ _ _ hp1 hp2 _).mono ?_; rintro e w1 ⟨rfl, hb1⟩; obtain ⟨hc, hf⟩ := bcell hb1; obtain ⟨hz, hz1, hz2⟩ := three_lt hb1 hsz hbw)
        go_roundw
        case rel => exact ⟨k + 1, by omega, by go_num, arcsB_step HOK.out ha (Or.inr (upB_yes2 hF1 hF2 (by omega))), ((hbel.alloc (by omega) _).trans (hb1.mono (by simp; omega))).alloc (by omega) _⟩
        case measure => simp [intOf]; omega
    · go_wp2_with (go_at_call 54; refine (l1Arc_any _ _ _ _ hp1 hp2 _).mono ?_; rintro e w1 ⟨rfl, hb1⟩; obtain ⟨hc, hf⟩ := bcell hb1; obtain ⟨hz, hz1, hz2⟩ := three_lt hb1 hsz hbw)
      go_ret
      exact ⟨ret_bool (by simp [graphB, h1, arcsB_down h0 (upB_no1 hF) n hlt]), unbox (((hbel.alloc (by omega) _).trans (hb1.mono (by simp; omega))).alloc (by omega) _) (by omega)⟩

end Go.Proofs.YticckgmkhgnmfaaDoor

/-
  What a map that is as told says of its arcs: the plain part.
-/
set_option linter.unusedVariables false
set_option linter.unusedSimpArgs false
namespace Go.Proofs.YticckgmkhgnmfaaDoor
open Go.RowKit Go.Maps

theorem graphB_arcs {p : Int} {n : Nat} {F T G : Nat → Int} (h : graphB p n F T G = true) : n ≤ 100 ∧ arcsB p F T G n = true := by
  simp [graphB] at h; exact ⟨h.2.1, h.2.2⟩
theorem arcsB_each {p : Int} {F T G : Nat → Int} : ∀ n, arcsB p F T G n = true → ∀ k, k < n → arcB (F k) (T k) (G k) p = true ∧ (0 < k → upB (F (k - 1)) (T (k - 1)) (F k) (T k) = true)
  | 0, _, k, hk => by omega
  | n + 1, h, k, hk => by
    simp [arcsB] at h
    by_cases e : k = n
    · subst e; exact ⟨h.2.1, fun h0 => by rcases h.2.2 with h' | h'; omega; exact h'⟩
    · exact arcsB_each n h.1 k (by omega)
theorem upB_iff {f t f' t' : Int} : upB f t f' t' = true ↔ f < f' ∨ (f = f' ∧ t < t') := by simp [upB]
theorem rising {p : Int} {F T G : Nat → Int} {n : Nat} (h : arcsB p F T G n = true) (i : Nat) : ∀ j, i < j → j < n → F i < F j ∨ (F i = F j ∧ T i < T j)
  | 0, hi, _ => by omega
  | j + 1, hi, hj => by
    have hu := upB_iff.1 ((arcsB_each n h (j + 1) hj).2 (by omega))
    simp at hu
    by_cases e : i = j
    · subst e; exact hu
    · have := rising h i j (by omega) (by omega); omega
theorem unique {p : Int} {F T G : Nat → Int} {n : Nat} (h : arcsB p F T G n = true) {i j : Nat} (hi : i < n) (hj : j < n) (hF : F i = F j) (hT : T i = T j) : i = j := by
  rcases Nat.lt_trichotomy i j with hlt | e | hlt
  · have := rising h i j hlt hj; omega
  · exact e
  · have := rising h j i hlt hi; omega
theorem graphB_p {p : Int} {n : Nat} {F T G : Nat → Int} (h : graphB p n F T G = true) : inB p 1 24 = true := by
  simp [graphB] at h; exact h.1
theorem ret_i64 {a b : Int} (h : a = b) : Ending.returned (.int .i64 a) = .returned (.int .i64 b) := by rw [h]

end Go.Proofs.YticckgmkhgnmfaaDoor

/-
  Is an arc right: the program's helpers.
-/
set_option linter.unusedVariables false
set_option linter.unusedSimpArgs false
namespace Go.Proofs.YticckgmkhgnmfaaDoor
open Go.RowKit

theorem weightOk_any (x : Int) (w : World) :
    Calls Tryd.prog 67 #[.int .i64 x] w fun e w' => e = .returned (.bool (inB x 1 1000000)) ∧ w' = w := by
  by_cases h1 : 1 ≤ x <;> by_cases h2 : x ≤ 1000000 <;>
  · go_enter Tryd.func67, Tryd.ntmps67
    go_wp2
    go_ret
    exact ⟨by simp [inB, h1, h2], rfl⟩
set_option maxHeartbeats 800000 in
theorem arcOk_any (f t g p : Int) (w : World) :
    Calls Tryd.prog 60 #[.agg #[.int .i64 f, .int .i64 t, .int .i64 g], .int .i64 p] w fun e w' => e = .returned (.bool (arcB f t g p)) ∧ Below w.heap.size w w' := by
  unfold arcB
  rcases Bool.eq_false_or_eq_true (inB f 0 (p - 1)) with h1 | h1
  · rcases Bool.eq_false_or_eq_true (inB t 0 (p - 1)) with h2 | h2
    · rcases Bool.eq_false_or_eq_true (f != t) with h3 | h3 <;>
      · go_enter Tryd.func60, Tryd.ntmps60
        go_wp2_with (first | (go_at_call 70; refine (placeOk_any _ _ _).mono ?_; rintro e w1 ⟨rfl, rfl⟩) | (go_at_call 67; refine (weightOk_any _ _).mono ?_; rintro e w1 ⟨rfl, rfl⟩))
        go_ret
        exact ⟨by simp [h1, h2, h3], (Below.refl _ _).alloc (Nat.le_refl _) _⟩
    · go_enter Tryd.func60, Tryd.ntmps60
      go_wp2_with (first | (go_at_call 70; refine (placeOk_any _ _ _).mono ?_; rintro e w1 ⟨rfl, rfl⟩) | (go_at_call 67; refine (weightOk_any _ _).mono ?_; rintro e w1 ⟨rfl, rfl⟩))
      go_ret
      exact ⟨by simp [h1, h2], (Below.refl _ _).alloc (Nat.le_refl _) _⟩
  · go_enter Tryd.func60, Tryd.ntmps60
    go_wp2_with (first | (go_at_call 70; refine (placeOk_any _ _ _).mono ?_; rintro e w1 ⟨rfl, rfl⟩) | (go_at_call 67; refine (weightOk_any _ _).mono ?_; rintro e w1 ⟨rfl, rfl⟩))
    go_ret
    exact ⟨by simp [h1], (Below.refl _ _).alloc (Nat.le_refl _) _⟩

end Go.Proofs.YticckgmkhgnmfaaDoor

/-
  GraphOk, the program's helpers.
-/
set_option linter.unusedVariables false
set_option linter.unusedSimpArgs false
namespace Go.Proofs.YticckgmkhgnmfaaDoor
open Go.RowKit

theorem endsOf_any (f t g : Int) (w : World) :
    Calls Tryd.prog 61 #[.agg #[.int .i64 f, .int .i64 t, .int .i64 g]] w fun e w' => e = .returned (.agg #[.int .i64 f, .int .i64 t]) ∧ Below w.heap.size w w' := by
  go_enter Tryd.func61, Tryd.ntmps61
  go_wp2
  simp [bodyPost, results, Tryd.results61, go_sem]
  exact ((Below.refl _ _).alloc (Nat.le_refl _) _).alloc (by simp) _
set_option maxHeartbeats 800000 in
theorem below_any (f t f' t' : Int) (w : World) :
    Calls Tryd.prog 62 #[.agg #[.int .i64 f, .int .i64 t], .agg #[.int .i64 f', .int .i64 t']] w fun e w' => e = .returned (.bool (upB f t f' t')) ∧ Below w.heap.size w w' := by
  unfold upB
  by_cases h1 : f < f'
  · go_enter Tryd.func62, Tryd.ntmps62
    go_wp2
    go_ret
    exact ⟨by simp [h1], ((Below.refl _ _).alloc (Nat.le_refl _) _).alloc (by simp) _⟩
  · rcases Bool.eq_false_or_eq_true (f == f') with h2 | h2
    · by_cases h3 : t < t' <;>
      · go_enter Tryd.func62, Tryd.ntmps62
        go_wp2
        go_ret
        exact ⟨by simp [h1, h2, h3], ((Below.refl _ _).alloc (Nat.le_refl _) _).alloc (by simp) _⟩
    · go_enter Tryd.func62, Tryd.ntmps62
      go_wp2
      go_ret
      exact ⟨by simp [h1, h2], ((Below.refl _ _).alloc (Nat.le_refl _) _).alloc (by simp) _⟩

end Go.Proofs.YticckgmkhgnmfaaDoor

/-
  The program's GraphOk answers 'graphB' of the map's places and arcs, for every map.
-/
set_option linter.unusedVariables false
set_option linter.unusedSimpArgs false
namespace Go.Proofs.YticckgmkhgnmfaaDoor
open Go.RowKit
attribute [local go_sem ↓] Go.wp_at_zero Go.wp_at_succ

set_option maxHeartbeats 1600000 in
theorem implGraphOk_any (p : Int) (ao : Option Addr) (n cap : Nat) (F T G : Nat → Int) (hn : n ≤ 1048576) (w : World) (hr : Row w ao n F T G) :
    Calls Tryd.prog 38 #[.agg #[.int .i64 p, .slice ao n cap]] w fun e w' => e = .returned (.bool (graphB p n F T G)) ∧ Below w.heap.size w w' := by
  by_cases h1 : p < 1
  · go_enter Tryd.func38, Tryd.ntmps38
    go_wp2
    go_ret
    exact ⟨ret_bool (by simp [graphB, inB]; omega), (Below.refl _ _).alloc (Nat.le_refl _) _⟩
  by_cases h2 : 24 < p
  · go_enter Tryd.func38, Tryd.ntmps38
    go_wp2
    go_ret
    exact ⟨ret_bool (by simp [graphB, inB]; omega), (Below.refl _ _).alloc (Nat.le_refl _) _⟩
  have hin : Hid (inB p 1 24 = true) := by show inB p 1 24 = true; simp [inB]; omega
  by_cases h3 : 100 < n
  · go_enter Tryd.func38, Tryd.ntmps38
    go_wp2
    go_ret
    exact ⟨ret_bool (by simp [graphB]; omega), (Below.refl _ _).alloc (Nat.le_refl _) _⟩
  have hn' : Hid (decide (n ≤ 100) = true) := by show decide (n ≤ 100) = true; simp; omega
  go_enter Tryd.func38, Tryd.ntmps38
  go_wp2
  go_loopw [22] (fun i wr => ∃ k : Nat, k ≤ n ∧ i = .int .i64 k ∧ arcsB p F T G k = true ∧ Below (w.heap.size + 1) (w.alloc (.cells #[.int .i64 p, .slice ao n cap] 40)) wr) (fun i _ => n - (intOf i).toNat)
  case atStart => exact ⟨0, Nat.zero_le _, rfl, rfl, Below.refl _ _⟩
  case round =>
    obtain ⟨k, hk, rfl, hok, hbel⟩ := hrel
    have g0 : wr.cell? ⟨w.heap.size, 0, none⟩ = some (.int .i64 p) := by rw [hbel.cell (by simp)]; simp [go_sem]
    have g1 : wr.cell? ⟨w.heap.size, 1, none⟩ = some (.slice ao n cap) := by rw [hbel.cell (by simp)]; simp [go_sem]
    have hsz : w.heap.size < wr.heap.size := by have := hbel.size; simp at this; omega
    have HOK : Hid (arcsB p F T G k = true) := hok
    clear hok
    by_cases hlt : k < n
    rotate_left
    · have hkn : k = n := by omega
      subst hkn
      go_wp2
      go_ret
      exact ⟨ret_bool (by simp [graphB, hin.out, hn'.out, HOK.out]), unbox hbel (by omega)⟩
    obtain ⟨b, o, hao, c0, c1, c2⟩ := ((hr.alloc _).below hbel (by simp)) k hlt
    subst hao
    rcases Bool.eq_false_or_eq_true (arcB (F k) (T k) (G k) p) with ha | ha
    rotate_left
    · go_wp2_with (go_at_call 60; refine (arcOk_any _ _ _ _ _).mono ?_; rintro e w1 ⟨rfl, hb1⟩)
      go_ret
      exact ⟨ret_bool (by simp [graphB, hin.out, arcsB_no ha n hlt]), unbox ((hbel.alloc (by omega) _).trans (hb1.mono (by simp; omega))) (by omega)⟩
    by_cases h0 : 0 < k
    rotate_left
    · have hd : decide (0 < (k : Int)) = false := by simp; omega
      go_wp2_with (go_at_call 60; refine (arcOk_any _ _ _ _ _).mono ?_; rintro e w1 ⟨rfl, hb1⟩)
      go_quiet (fail)
      go_wp2
      go_roundw
      case rel => exact ⟨k + 1, by omega, by go_num, arcsB_step HOK.out ha (Or.inl (by omega)), below_drewN ((hbel.alloc (by omega) _).trans (hb1.mono (by simp; omega))) _⟩
      case measure => simp [intOf]; omega
    have hbw : b < wr.heap.size := lt_of_cell c0
    obtain ⟨b', o', hao', d0, d1, d2⟩ := ((hr.alloc _).below hbel (by simp)) (k - 1) (by omega)
    simp only [Option.some.injEq, Addr.mk.injEq, and_true] at hao'
    obtain ⟨rfl, rfl⟩ := hao'
    have hk1 : (0 : Int) ≤ (k : Int) - 1 := by omega
    have hk2 : (k : Int) - 1 < (n : Int) := by omega
    have hk3 : IntKind.i64.wrap ((k : Int) - 1) = (k : Int) - 1 := by rw [IntKind.wrap_i64]; omega
    have hk4 : ((k : Int) - 1).toNat = k - 1 := by omega
    have hk5 : (1 : Int) ≤ (k : Int) := by omega
    have hk6 : (k : Int) ≤ (n : Int) := by omega
    have hk7 : 1 ≤ k := by omega
    rcases Bool.eq_false_or_eq_true (upB (F (k - 1)) (T (k - 1)) (F k) (T k)) with hu | hu
    · go_wp2_with (go_at_call 60; refine (arcOk_any _ _ _ _ _).mono ?_; rintro e w1 ⟨rfl, hb1⟩)
      have hbw1 := unbox hb1 (by simp)
      have hA := (hbel.alloc (by omega) _).trans (hb1.mono (by simp; omega))
      have s0 := keep_cell hbw1 (Nat.le_refl _) g1
      have s1 := keep_cell hbw1 (Nat.le_refl _) d0
      have s2 := keep_cell hbw1 (Nat.le_refl _) d1
      have s3 := keep_cell hbw1 (Nat.le_refl _) d2
      have s4 := keep_cell hb1 (Nat.le_refl _) (b := wr.heap.size) (o := 0) (by simp [go_sem]; rfl)
      have s5 := keep_cell hb1 (Nat.le_refl _) (b := wr.heap.size) (o := 1) (by simp [go_sem]; rfl)
      have s6 := keep_cell hb1 (Nat.le_refl _) (b := wr.heap.size) (o := 2) (by simp [go_sem]; rfl)
      go_region_held3 (fun w' => w'.cell? ⟨w.heap.size, 1, none⟩ = some (.slice (some ⟨b, o, none⟩) n cap) ∧ w'.cell? ⟨b, o + (k - 1) * 3, none⟩ = some (.int .i64 (F (k - 1))) ∧ w'.cell? ⟨b, o + (k - 1) * 3 + 1, none⟩ = some (.int .i64 (T (k - 1))) ∧ w'.cell? ⟨b, o + (k - 1) * 3 + 2, none⟩ = some (.int .i64 (G (k - 1))) ∧ w'.cell? ⟨wr.heap.size, 0, none⟩ = some (.int .i64 (F k)) ∧ w'.cell? ⟨wr.heap.size, 1, none⟩ = some (.int .i64 (T k)) ∧ w'.cell? ⟨wr.heap.size, 2, none⟩ = some (.int .i64 (G k)))
        (first | (go_split_ands; refine ⟨?_, ?_, ?_, ?_, ?_, ?_, ?_⟩ <;> exact keep_cell ‹_› (Nat.le_refl _) (by assumption)) | go_keep)
        (first | (go_at_call 61; refine (endsOf_any _ _ _ _).mono ?_; rintro e w2 ⟨rfl, hb2⟩; (first | have hA := below_next hA (by simp) hb2 | have hA := below_next hA.drew (by simp) hb2)) | (go_at_call 62; refine (below_any _ _ _ _ _).mono ?_; rintro e w3 ⟨rfl, hb3⟩; have hA := below_next hA (by simp) hb3))
      go_wp2
      go_roundw
      case rel => exact ⟨k + 1, by omega, by go_num, arcsB_step HOK.out ha (Or.inr hu), hA⟩
      case measure => simp [intOf]; omega
    · go_wp2_with (go_at_call 60; refine (arcOk_any _ _ _ _ _).mono ?_; rintro e w1 ⟨rfl, hb1⟩)
      have hbw1 := unbox hb1 (by simp)
      have hA := (hbel.alloc (by omega) _).trans (hb1.mono (by simp; omega))
      have s0 := keep_cell hbw1 (Nat.le_refl _) g1
      have s1 := keep_cell hbw1 (Nat.le_refl _) d0
      have s2 := keep_cell hbw1 (Nat.le_refl _) d1
      have s3 := keep_cell hbw1 (Nat.le_refl _) d2
      have s4 := keep_cell hb1 (Nat.le_refl _) (b := wr.heap.size) (o := 0) (by simp [go_sem]; rfl)
      have s5 := keep_cell hb1 (Nat.le_refl _) (b := wr.heap.size) (o := 1) (by simp [go_sem]; rfl)
      have s6 := keep_cell hb1 (Nat.le_refl _) (b := wr.heap.size) (o := 2) (by simp [go_sem]; rfl)
      go_region_held3 (fun w' => w'.cell? ⟨w.heap.size, 1, none⟩ = some (.slice (some ⟨b, o, none⟩) n cap) ∧ w'.cell? ⟨b, o + (k - 1) * 3, none⟩ = some (.int .i64 (F (k - 1))) ∧ w'.cell? ⟨b, o + (k - 1) * 3 + 1, none⟩ = some (.int .i64 (T (k - 1))) ∧ w'.cell? ⟨b, o + (k - 1) * 3 + 2, none⟩ = some (.int .i64 (G (k - 1))) ∧ w'.cell? ⟨wr.heap.size, 0, none⟩ = some (.int .i64 (F k)) ∧ w'.cell? ⟨wr.heap.size, 1, none⟩ = some (.int .i64 (T k)) ∧ w'.cell? ⟨wr.heap.size, 2, none⟩ = some (.int .i64 (G k)))
        (first | (go_split_ands; refine ⟨?_, ?_, ?_, ?_, ?_, ?_, ?_⟩ <;> exact keep_cell ‹_› (Nat.le_refl _) (by assumption)) | go_keep)
        (first | (go_at_call 61; refine (endsOf_any _ _ _ _).mono ?_; rintro e w2 ⟨rfl, hb2⟩; (first | have hA := below_next hA (by simp) hb2 | have hA := below_next hA.drew (by simp) hb2)) | (go_at_call 62; refine (below_any _ _ _ _ _).mono ?_; rintro e w3 ⟨rfl, hb3⟩; have hA := below_next hA (by simp) hb3))
      go_wp2
      go_ret
      exact ⟨ret_bool (by simp [graphB, hin.out, arcsB_down h0 hu n hlt]), unbox hA (by omega)⟩

end Go.Proofs.YticckgmkhgnmfaaDoor

/-
  The document's copy of a map: its arcs in new memory.
-/
set_option linter.unusedVariables false
set_option linter.unusedSimpArgs false
namespace Go.Proofs.YticckgmkhgnmfaaDoor
open Go.RowKit Go.Maps
attribute [local go_sem ↓] Go.wp_at_zero Go.wp_at_succ

theorem has_of_owns {w : World} {base g n cap : Nat} {f : Nat → Int} {xs : List Value} (h : w.ownsRow base 82 3 (.slice (some ⟨g, 0, none⟩) n cap) n xs) (hx : xs = cellsOf f (n * 3)) : Has w g n f ∧ base ≤ g := by
  obtain ⟨hl, h0 | ⟨g', cap', cur, hv, hb, hh, h1, h2, h3, h4⟩⟩ := h
  · simp at h0
  · simp at hv
    obtain ⟨rfl, rfl⟩ := hv
    refine ⟨⟨cur, hh, by rw [h3]; exact Nat.mul_le_mul_right 3 h1, fun j hj => ?_⟩, hb⟩
    subst hx
    have : (cur.toList.take (n * 3))[j]? = (cellsOf f (n * 3))[j]? := by rw [h4]
    rw [List.getElem?_take_of_lt hj, cellsOf, List.getElem?_map, List.getElem?_range hj] at this
    simpa using this
theorem keep_grown {W W' : World} {row : Option Nat} {b o : Nat} {v : Value} (hg : W.grownBy W' row) (hne : some b ≠ row) (h : W.cell? ⟨b, o, none⟩ = some v) : W'.cell? ⟨b, o, none⟩ = some v := hg.cell h hne
theorem keep_frozen {W W' : World} {row : Option Nat} {b o : Nat} (hg : W.grownBy W' row) (hne : some b ≠ row) (hlt : b < W.heap.size) (h : W.frozen? ⟨b, o, none⟩ = false) : W'.frozen? ⟨b, o, none⟩ = false := by
  rw [← h]; exact World.frozen?_of_block (hg.block b hlt hne)
theorem empty_owns (w : World) (o1 o2 : Obj) : (((w.alloc o1).alloc o2).alloc (.cells #[] 82)).ownsRow (w.heap.size + 2) 82 3 (.slice (some ⟨w.heap.size + 1 + 1, 0, none⟩) 0 0) 0 [] := by
  have := World.ownsRow_lit (base := w.heap.size + 2) (e := 82) (size := 3) ((w.alloc o1).alloc o2) #[] 0 (by simp) (by simp) (by simp)
  simpa using this
set_option maxRecDepth 100000 in
set_option maxHeartbeats 2000000 in
theorem l1Copy_pos (p : Int) (b o n cap : Nat) (F T G : Nat → Int) (hn : n ≤ 1048576) (hpos : 0 < n) (w : World) (hr : Row w (some ⟨b, o, none⟩) n F T G) :
    Calls Tryd.prog 57 #[.agg #[.int .i64 p, .slice (some ⟨b, o, none⟩) n cap]] w fun e w' => ∃ g cap', e = .returned (.agg #[.int .i64 p, .slice (some ⟨g, 0, none⟩) n cap']) ∧ w.heap.size ≤ g ∧ Has w' g n (ar F T G) ∧ Below w.heap.size w w' := by
  obtain ⟨i0, hi0, hz0, hz1, hz2⟩ := info_parts Tryd.infoArc
  go_enter Tryd.func57, Tryd.ntmps57
  go_wp2
  go_region_held3 (fun w' => w'.cell? ⟨w.heap.size, 0, none⟩ = some (.int .i64 p) ∧ w'.cell? ⟨w.heap.size, 1, none⟩ = some (.slice (some ⟨b, o, none⟩) n cap))
    (first | (simp [go_sem]; done) | (exact ⟨keep_grown hgrow (by simp [Value.ownBlock] <;> omega) (by simp [go_sem]), keep_grown hgrow (by simp [Value.ownBlock] <;> omega) (by simp [go_sem])⟩) | go_keep)
    ((refine step_append_lies _ (by rfl) _ _ _ (by rfl) (w.heap.size + 2) 82 i0 _ 3 24 Tryd.underlying38 hi0 hz0 hz1 hz2 rfl (by omega) (.slice (some ⟨w.heap.size + 1 + 1, 0, none⟩) 0 0) 0 [] (by rfl) (World.ownsRow.drew (empty_owns w _ _))
        ⟨b, o, none⟩ n cap (cellsOf (ar F T G) (n * 3)) (by rfl) (by simp [cellsOf]) (Row.news (((hr.alloc _).alloc _).alloc _)) (cellsOf_one _ _) hpos (by unfold maxLen; omega) (by omega) (by simp) (w.heap.size + 3) (by simp) ?_; intro g cap' w1 hown1 hgrow hat hlt; have t0 := keep_grown hgrow (b := w.heap.size + 1) (o := 0) (v := .int .i64 0) (by simp [Value.ownBlock] <;> omega) (by simp [go_sem]); have t1 := keep_grown hgrow (b := w.heap.size + 1) (o := 1) (v := .slice none 0 0) (by simp [Value.ownBlock] <;> omega) (by simp [go_sem]); have f0 := keep_frozen hgrow (b := w.heap.size + 1) (o := 0) (by simp [Value.ownBlock] <;> omega) (by simp) (by simp [go_sem]); have f1 := keep_frozen hgrow (b := w.heap.size + 1) (o := 1) (by simp [Value.ownBlock] <;> omega) (by simp) (by simp [go_sem])))
  go_wp2
  simp only [Nat.zero_add, List.nil_append] at hown1
  obtain ⟨hhas, hg2⟩ := has_of_owns hown1 rfl
  simp [bodyPost, results, Tryd.results57, go_sem, t0, t1, f0, f1]
  refine ⟨by omega, ?_, ?_⟩
  · exact (hhas.of_block (Below.heap_setCell _ _ _ _ (by simp; omega))).of_block (Below.heap_setCell _ _ _ _ (by simp; omega))
  · refine Below.setCell (Below.setCell (Below.grown (Below.drew ((((Below.refl _ _).alloc (Nat.le_refl _) _).alloc (by simp) _).alloc (by simp; omega) _)) hgrow (by simp; omega) ?_) (by simp) _) (by simp) _
    intro k hk
    simp [Value.ownBlock] at hk
    omega
set_option maxHeartbeats 2000000 in
theorem l1Copy_zero (p : Int) (ao : Option Addr) (cap : Nat) (w : World) :
    Calls Tryd.prog 57 #[.agg #[.int .i64 p, .slice ao 0 cap]] w fun e w' => ∃ g cap', e = .returned (.agg #[.int .i64 p, .slice (some ⟨g, 0, none⟩) 0 cap']) ∧ w.heap.size ≤ g ∧ g < w'.heap.size ∧ Below w.heap.size w w' := by
  have hsc : ∀ (a : Addr) (w : World), (storeCells a []).run Tryd.prog w = .ok () w := fun _ _ => rfl
  cases ao with
  | none =>
    go_enter Tryd.func57, Tryd.ntmps57
    go_wp2
    go_region
    all_goals go_wp2
    all_goals
      simp [bodyPost, results, Tryd.results57, go_sem]
      refine ⟨by omega, ?_⟩
      exact Below.drew ((((Below.refl _ _).alloc (Nat.le_refl _) _).alloc (by simp) _).alloc (by simp; omega) _)
  | some a =>
    go_enter Tryd.func57, Tryd.ntmps57
    go_wp2
    go_region
    all_goals go_wp2
    all_goals
      simp [bodyPost, results, Tryd.results57, go_sem]
      refine ⟨by omega, ?_⟩
      exact Below.drew ((((Below.refl _ _).alloc (Nat.le_refl _) _).alloc (by simp) _).alloc (by simp; omega) _)
/-- A copy of a map by the document: its arcs in new memory. -/
theorem l1Copy_any (p : Int) (ao : Option Addr) (n cap : Nat) (F T G : Nat → Int) (hn : n ≤ 1048576) (w : World) (hr : Row w ao n F T G) :
    Calls Tryd.prog 57 #[.agg #[.int .i64 p, .slice ao n cap]] w fun e w' => ∃ g cap', e = .returned (.agg #[.int .i64 p, .slice (some ⟨g, 0, none⟩) n cap']) ∧ w.heap.size ≤ g ∧ g < w'.heap.size ∧ (0 < n → Has w' g n (ar F T G)) ∧ Below w.heap.size w w' := by
  by_cases h : 0 < n
  · obtain ⟨b, o, e, _⟩ := hr 0 h
    subst e
    refine (l1Copy_pos p b o n cap F T G hn h w hr).mono ?_
    rintro e w' ⟨g, cap', rfl, h1, h2, h3⟩
    exact ⟨g, cap', rfl, h1, h2.lt, fun _ => h2, h3⟩
  · have e : n = 0 := by omega
    subst e
    refine (l1Copy_zero p ao cap w).mono ?_
    rintro e w' ⟨g, cap', rfl, h1, h2, h3⟩
    exact ⟨g, cap', rfl, h1, h2, fun h => by omega, h3⟩

end Go.Proofs.YticckgmkhgnmfaaDoor

/-
  The map from an arc's ends to its number: what its keys read as, and what it holds after so many arcs.
-/
set_option linter.unusedVariables false
set_option linter.unusedSimpArgs false
namespace Go.Proofs.YticckgmkhgnmfaaDoor
open Go.ChangeShapes Go.WideShapes Go.ChangeAt Go.RowKit Go.Maps

set_option maxRecDepth 100000 in
theorem Tryd.rowEnds : (93 : TypeId) < Tryd.prog.types.size := of_decide_eq_true (by kernel_rfl)
theorem Tryd.wideEnds : (match Tryd.prog.underlying 93 with | some (.array _ _) | some (.struct _) => true | _ => false) = true := by rw [Tryd.underlying93]
set_option maxRecDepth 100000 in
theorem Tryd.keyLaw : Keyed Tryd.prog 93 := Keyed.of_law (deep_law_laid Tryd.laidOut (m := 2) (by omega) Tryd.rowEnds (by kernel_rfl) Tryd.wideEnds)
theorem Tryd.keyType : Tryd.prog.keyType 93 = true := by kernel_rfl
theorem Tryd.cellsEnds : Tryd.prog.cellsOf 93 = 2 := by kernel_rfl
theorem Tryd.mapZero (w : World) : (zeroValue 3).run Tryd.prog w = .ok (.int .i64 0) w := by kernel_rfl
set_option maxRecDepth 100000 in
theorem Tryd.someTypes : ∃ m, Tryd.prog.types.size = m + 1 := ⟨_, (Nat.succ_pred_eq_of_pos (Nat.lt_of_le_of_lt (Nat.zero_le _) Tryd.rowEnds)).symm⟩

def kl (f t : Int) : Lit := .string (keyBytes [.int .i64 f, .int .i64 t])
set_option maxRecDepth 100000 in
theorem key_ends (f t : Int) (hf : (Lit.int .i64 f).wf = true) (ht : (Lit.int .i64 t).wf = true) : keyOf Tryd.prog 93 (.agg #[.int .i64 f, .int .i64 t]) = some (kl f t) := by
  exact key_two Tryd.underlying93 Tryd.keyType Tryd.cellsEnds Tryd.underlying2 Tryd.underlying2 rfl rfl Tryd.cellsInt Tryd.cellsInt (by decide) (by decide) Tryd.someTypes hf ht
theorem kl_inj {f t f' t' : Int} (hf : (Lit.int .i64 f).wf = true) (ht : (Lit.int .i64 t).wf = true) (hf' : (Lit.int .i64 f').wf = true) (ht' : (Lit.int .i64 t').wf = true) (h : kl f t = kl f' t') : f = f' ∧ t = t' := by
  have := Tryd.keyLaw.inj (key_ends f t hf ht) (by rw [h]; exact key_ends f' t' hf' ht')
  simpa using this
theorem kl_key (f t : Int) : WideAt.IsKeyLit (kl f t) := trivial

/-- What the map holds after k arcs. -/
def nums (F T : Nat → Int) : Nat → DataW Unit
  | 0 => .map []
  | k + 1 => (nums F T k).put (kl (F k) (T k)) (.lit (.int .i64 (k : Int)))
theorem nums_isMap (F T : Nat → Int) : ∀ k, IsMap (nums F T k)
  | 0 => isMap_empty
  | k + 1 => (nums_isMap F T k).put _ _

def WfTo (F T : Nat → Int) (n : Nat) : Prop := ∀ k, k < n → (Lit.int .i64 (F k)).wf = true ∧ (Lit.int .i64 (T k)).wf = true

/-- A look-up in it: there is none, and then the key is not there; or it is there with its last number. -/
theorem nums_look (F T : Nat → Int) (a b : Int) (ha : (Lit.int .i64 a).wf = true) (hb : (Lit.int .i64 b).wf = true) : ∀ n, WfTo F T n →
    (Maps.has (nums F T n) (kl a b) = false ∧ ∀ k, k < n → ¬ (F k = a ∧ T k = b)) ∨
    ∃ k, k < n ∧ F k = a ∧ T k = b ∧ Maps.has (nums F T n) (kl a b) = true ∧ (nums F T n).atKey (kl a b) (.lit (.int .i64 0)) = .lit (.int .i64 (k : Int))
  | 0, _ => Or.inl ⟨rfl, fun k hk => by omega⟩
  | n + 1, hw => by
    by_cases h : F n = a ∧ T n = b
    · obtain ⟨rfl, rfl⟩ := h
      exact Or.inr ⟨n, by omega, rfl, rfl, has_put_same (nums_isMap F T n) (kl_key _ _) _, atKey_put_same (nums_isMap F T n) (kl_key _ _) _ _⟩
    · have hne : kl a b ≠ kl (F n) (T n) := fun e => by
        have := kl_inj ha hb (hw n (by omega)).1 (hw n (by omega)).2 e
        exact h ⟨this.1.symm, this.2.symm⟩
      rcases nums_look F T a b ha hb n (fun k hk => hw k (by omega)) with ⟨h1, h2⟩ | ⟨k, hk, h1, h2, h3, h4⟩
      · exact Or.inl ⟨by rw [nums, has_put_other hne]; exact h1, fun k hk => by
          by_cases e : k = n
          · subst e; exact h
          · exact h2 k (by omega)⟩
      · exact Or.inr ⟨k, by omega, h1, h2, by rw [nums, has_put_other hne]; exact h3, by rw [nums, atKey_put_other hne]; exact h4⟩

theorem make_map (n : Nat) (w : World) : (Instr.makeMap 99 (some (.int .i64 (n : Int)))).run Tryd.prog w = .ok (.map (some w.heap.size)) (w.alloc (.map #[] 0)) := by
  simp [Instr.makeMap, run_underlying Tryd.underlying99, asInt, asIntOf, newObj]
  rfl

end Go.Proofs.YticckgmkhgnmfaaDoor

/-
  The program's map of arc numbers, walked: it holds the number of each arc at its ends.
-/
set_option linter.unusedVariables false
set_option linter.unusedSimpArgs false
namespace Go.Proofs.YticckgmkhgnmfaaDoor
open Go.RowKit Go.Maps

set_option maxHeartbeats 1000000 in
theorem arcNumbers_any (p : Int) (ao : Option Addr) (n cap : Nat) (F T G : Nat → Int) (hn : n ≤ 1048576) (hwf : WfTo F T n) (w : World) (hr : Row w ao n F T G) :
    Calls Tryd.prog 66 #[.agg #[.int .i64 p, .slice ao n cap]] w fun e w' => e = .returned (.map (some (w.heap.size + 1))) ∧ w'.ownsMap Tryd.prog 93 (plainElem Tryd.prog 3) (w.heap.size + 1) n (nums F T n) ∧ Below w.heap.size w w' := by
  have hmk := make_map n
  go_enter Tryd.func66, Tryd.ntmps66
  go_wp2
  clear hmk
  go_loopw [13] (fun i wr => ∃ k : Nat, k ≤ n ∧ i = .int .i64 k ∧ wr.ownsMap Tryd.prog 93 (plainElem Tryd.prog 3) (w.heap.size + 1) k (nums F T k) ∧ Below (w.heap.size + 1) (w.alloc (.cells #[.int .i64 p, .slice ao n cap] 40)) wr) (fun i _ => n - (intOf i).toNat)
  case atStart => exact ⟨0, Nat.zero_le _, rfl, by simpa [nums] using World.ownsMap_made (w.alloc (.cells #[.int .i64 p, .slice ao n cap] 40)) Tryd.prog 93 (plainElem (H := Unit) Tryd.prog 3), (Below.refl _ _).alloc (by simp) _⟩
  case round =>
    obtain ⟨k, hk, rfl, hown, hbel⟩ := hrel
    have hsz : w.heap.size + 1 < wr.heap.size := hown.lt
    by_cases hlt : k < n
    rotate_left
    · have hkn : k = n := by omega
      subst hkn
      go_wp2
      go_ret
      exact ⟨rfl, hown, unbox hbel (by omega)⟩
    obtain ⟨b, o, hao, c0, c1, c2⟩ := ((hr.alloc _).below hbel (by simp)) k hlt
    subst hao
    have hkey := key_ends (F k) (T k) (hwf k hlt).1 (hwf k hlt).2
    go_wp2_with (first | (go_at_call 61; refine (endsOf_any _ _ _ _).mono ?_; rintro e w1 ⟨rfl, hb1⟩; have hown1 := ownsMap_below (hown.alloc _) hb1) | (at_mapUpdate; refine wpList_mapUpdate_own _ rfl _ _ _ 99 rfl 93 3 Tryd.keyLaw Tryd.underlying99 _ (w.heap.size + 1) k _ rfl hown1 (by unfold maxLen; omega) _ _ _ rfl rfl hkey _ [] (plainElem_int Tryd.underlying3 (WalkArith.wf_i64 (by omega))) ?_; intro w2 hown2 hgrow2))
    go_wp2
    go_roundw
    case rel => exact ⟨k + 1, by omega, by go_num, hown2, (below_next (hbel.alloc (by omega) _) (by simp) hb1).grown hgrow2 (by have := hb1.size; simp at this; omega) (fun j hj => by cases hj; exact Nat.le_refl _)⟩
    case measure => simp [intOf]; omega

end Go.Proofs.YticckgmkhgnmfaaDoor

/-
  Plain: the last weight of an arc.
-/
set_option linter.unusedVariables false
set_option linter.unusedSimpArgs false
namespace Go.Proofs.YticckgmkhgnmfaaDoor
open Go.RowKit Go.Maps

def lastW (F T G : Nat → Int) (a b : Int) : Nat → Int
  | 0 => 1000000000000
  | k + 1 => if F k = a ∧ T k = b then G k else lastW F T G a b k
theorem lastW_at {F T G : Nat → Int} {a b : Int} {k : Nat} : ∀ n, (∀ j, j < n → F j = a → T j = b → j = k) → k < n → F k = a → T k = b → lastW F T G a b n = G k
  | 0, _, hk, _, _ => by omega
  | n + 1, hu, hk, hF, hT => by
    unfold lastW
    by_cases h : F n = a ∧ T n = b
    · rw [if_pos h, hu n (by omega) h.1 h.2]
    · rw [if_neg h]
      have : k ≠ n := fun e => h (e ▸ ⟨hF, hT⟩)
      exact lastW_at n (fun j hj => hu j (by omega)) (by omega) hF hT
theorem lastW_none {F T G : Nat → Int} {a b : Int} : ∀ n, (∀ j, j < n → ¬ (F j = a ∧ T j = b)) → lastW F T G a b n = 1000000000000
  | 0, _ => rfl
  | n + 1, h => by
    unfold lastW
    rw [if_neg (h n (by omega))]
    exact lastW_none n (fun j hj => h j (by omega))

end Go.Proofs.YticckgmkhgnmfaaDoor

/-
  WeightOf: the document's and the program's, each held against one plain function of the arcs.
-/
set_option linter.unusedVariables false
set_option linter.unusedSimpArgs false
namespace Go.Proofs.YticckgmkhgnmfaaDoor
open Go.RowKit Go.Maps

def wOf (p : Int) (n : Nat) (F T G : Nat → Int) (a b : Int) : Int := if graphB p n F T G then lastW F T G a b n else 1000000000000
theorem wf_small {p : Int} {F T G : Nat → Int} {n : Nat} (hp : inB p 1 24 = true) (h : arcsB p F T G n = true) : WfTo F T n := fun k hk => by
  have := (arcsB_each n h k hk).1
  simp [arcB, inB] at this hp
  exact ⟨WalkArith.wf_i64 (by omega), WalkArith.wf_i64 (by omega)⟩

end Go.Proofs.YticckgmkhgnmfaaDoor
