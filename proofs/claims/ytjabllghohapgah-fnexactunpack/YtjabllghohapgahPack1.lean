/-
  Helpers, merged: Core, Base, Ints, IntsLaw, UnP, Grow, OwnI, UnL, BAn, In, Edge, EdOk, Cmp, EdOkImpl, ChdP, Chd, Small, Ok, OkSpec, OkP.
-/
import Derived.Test.YtjabllghohapgahRows
import Derived.WalkKit
import Derived.WalkSpells
import Derived.WalkLawsBesides
import Derived.Deep.RegionHeld3
import Derived.Deep.OwnRows
import Derived.Deep.QuietTactic
import Derived.BigQuiet
import Derived.Deep.DrawnRows
import Derived.ProofKit
import Derived.OpenShut
import Derived.ChangeOld
import Derived.Deep.Slices
import Derived.Deep.Strs
import Derived.Lib.SmallJoins
import Derived.Deep.AppendLies
/-
  What needs no function of the program: cells of an older world in a later one, numbers in bounds, two pairs in their order.
-/
set_option linter.unusedVariables false
set_option linter.unusedSimpArgs false
namespace Go.Proofs.Ytjabllghohapgah
open Go.RowKit

theorem lt_of_cell {w : World} {b o : Nat} {v : Value} (h : w.cell? ⟨b, o, none⟩ = some v) : b < w.heap.size := by
  by_cases hb : b < w.heap.size
  · exact hb
  · simp [World.cell?, Array.getElem?_eq_none (Nat.le_of_not_lt hb)] at h
/-- Behind a call that has turned nothing old: all old cells and marks read as before. -/
theorem bcell {W w1 : World} (hb : Below W.heap.size W w1) : (∀ b o, b < W.heap.size → w1.cell? ⟨b, o, none⟩ = W.cell? ⟨b, o, none⟩) ∧ (∀ b o, b < W.heap.size → w1.frozen? ⟨b, o, none⟩ = W.frozen? ⟨b, o, none⟩) :=
  ⟨fun _ _ h => hb.cell h, fun _ _ h => hb.frozen h⟩
/-- So far k arcs have been copied; behind them all is nought. -/
def upto (f : Nat → Int) (m j : Nat) : Int := if j < m then f j else 0
def inB (x lo hi : Int) : Bool := decide (lo ≤ x) && decide (x ≤ hi)
def upB (f t f' t' : Int) : Bool := decide (f < f') || (f == f' && decide (t < t'))
theorem upB_yes1 {f t f' t' : Int} (h : f < f') : upB f t f' t' = true := by simp [upB, h]
theorem upB_yes2 {f t f' t' : Int} (h : f ≤ f') (h' : f' ≤ f) (ht : t < t') : upB f t f' t' = true := by
  have : f = f' := by omega
  simp [upB, this, ht]
theorem upB_no1 {f t f' t' : Int} (h : f' < f) : upB f t f' t' = false := by simp [upB]; omega
theorem upB_no2 {f t f' t' : Int} (h : f ≤ f') (h' : f' ≤ f) (ht : t' ≤ t) : upB f t f' t' = false := by simp [upB]; omega
theorem ret_bool {a b : Bool} (h : a = b) : Ending.returned (.bool a) = .returned (.bool b) := by rw [h]
/-- Behind the box of its argument a function has turned nothing old. -/
theorem unbox {w w' : World} {o : Obj} {B : Nat} (h : Below B (w.alloc o) w') (hB : w.heap.size ≤ B) : Below w.heap.size w w' :=
  ((Below.refl _ _).alloc (Nat.le_refl _) _).trans (h.mono hB)
theorem three_lt {w wr w1 : World} {o : Obj} {b : Nat} (h : Below (wr.alloc o).heap.size (wr.alloc o) w1) (h1 : w.heap.size < wr.heap.size) (h2 : b < wr.heap.size) : wr.heap.size < w1.heap.size ∧ w.heap.size < w1.heap.size ∧ b < w1.heap.size := by
  have := h.size; simp at this; omega
theorem keep_cell {W W' : World} {B b o : Nat} {v : Value} (hb : Below B W W') (hB : W.heap.size ≤ B) (h : W.cell? ⟨b, o, none⟩ = some v) : W'.cell? ⟨b, o, none⟩ = some v := by
  have := lt_of_cell h
  rw [hb.cell (by simp; omega)]; exact h
theorem below_next {B : Nat} {a W W' : World} (h : Below B a W) (hB : B ≤ a.heap.size) (hb : Below W.heap.size W W') : Below B a W' := h.trans (hb.mono (Nat.le_trans hB h.size))
/-- The box of an argument of two cells, in a later world. -/
theorem box2 {w W : World} {a0 a1 : Value} {t : TypeId} (h : Below (w.heap.size + 1) (w.alloc (.cells #[a0, a1] t)) W) :
    W.cell? ⟨w.heap.size, 0, none⟩ = some a0 ∧ W.cell? ⟨w.heap.size, 1, none⟩ = some a1 ∧ w.heap.size < W.heap.size := by
  refine ⟨by rw [h.cell (by simp)]; simp [go_sem], by rw [h.cell (by simp)]; simp [go_sem], by have := h.size; simp at this; omega⟩
theorem boxed {w W : World} {o : Obj} (h : Below (w.alloc o).heap.size (w.alloc o) W) : Below (w.heap.size + 1) (w.alloc o) W := h.mono (by simp)

end Go.Proofs.Ytjabllghohapgah

/-
  What every law's shell asks of the program as a whole, and the size of a number.
-/
set_option linter.unusedVariables false
set_option linter.unusedSimpArgs false
namespace Go.Proofs.Ytjabllghohapgah
open Go.ChangeShapes Go.WideShapes Go.ChangeAt Go.RowKit Go.Deep Go.Joins

theorem Try.own : ownKnob Try.prog.godebug = none := by kernel_rfl
theorem Try.laidOut : laidOutB Try.prog = true := by kernel_rfl
theorem Try.cellsInt : Try.prog.cellsOf 2 = 1 := by kernel_rfl

theorem gr_setCell (w : World) (b o : Nat) (v : Value) : w.grownBy (w.setCell ⟨b, o, none⟩ v) (some b) :=
  ⟨rfl, rfl, rfl, by simp [World.setCell], fun k _ hne => Below.heap_setCell _ _ _ _ (fun e => hne (by rw [e]))⟩
theorem gr_below {w w' : World} {b B : Nat} (h : w.grownBy w' (some b)) (hb : B ≤ b) (hB : B ≤ w.heap.size) : Below B w w' :=
  ⟨h.os, h.tape, h.output, h.size, fun k hk => h.block k (by omega) (fun e => by simp at e; omega)⟩

end Go.Proofs.Ytjabllghohapgah

/-
  Lists of numbers: read behind an address, of the call's own, copied, held against each other, marked. For every list of at most 2^20 numbers.
-/
set_option linter.unusedVariables false
set_option linter.unusedSimpArgs false
namespace Go.Proofs.Ytjabllghohapgah
open Go.RowKit
attribute [local go_sem ↓] Go.wp_at_zero Go.wp_at_succ

/-- n numbers lie behind a slice's address. -/
def IRow (w : World) (ao : Option Addr) (n : Nat) (f : Nat → Int) : Prop := ∀ k, k < n → ∃ b o, ao = some ⟨b, o, none⟩ ∧ w.cell? ⟨b, o + k, none⟩ = some (.int .i64 (f k))
theorem IRow.below {w w' : World} {B : Nat} {ao : Option Addr} {n : Nat} {f : Nat → Int} (h : IRow w ao n f) (hb : Below B w w') (hB : w.heap.size ≤ B) : IRow w' ao n f := fun k hk => by
  obtain ⟨b, o, e, c0⟩ := h k hk
  have hlt := lt_of_cell c0
  exact ⟨b, o, e, by rw [hb.cell (by simp; omega)]; exact c0⟩
theorem IRow.alloc {w : World} {ao : Option Addr} {n : Nat} {f : Nat → Int} (h : IRow w ao n f) (o : Obj) : IRow (w.alloc o) ao n f := h.below ((Below.refl w.heap.size w).alloc (Nat.le_refl _) o) (Nat.le_refl _)
theorem IRow.congr {w : World} {ao : Option Addr} {n : Nat} {f g : Nat → Int} (h : IRow w ao n f) (e : ∀ k, k < n → f k = g k) : IRow w ao n g := fun k hk => by
  obtain ⟨b, o, h1, h2⟩ := h k hk
  exact ⟨b, o, h1, by rw [h2, e k hk]⟩

/-- Block b begins with n numbers of the call's own, which may be written. -/
def IHas (w : World) (b n : Nat) (f : Nat → Int) : Prop := ∃ cur : Array Value, w.heap[b]? = some (.cells cur 2 (0, 0)) ∧ n ≤ cur.size ∧ ∀ j, j < n → cur[j]? = some (.int .i64 (f j))
theorem IHas.cell {w : World} {b n : Nat} {f : Nat → Int} (h : IHas w b n f) {j : Nat} (hj : j < n) : w.cell? ⟨b, j, none⟩ = some (.int .i64 (f j)) := by
  obtain ⟨c, hb, _, hc⟩ := h
  simp [World.cell?, hb, hc j hj]
theorem IHas.frozen {w : World} {b n : Nat} {f : Nat → Int} (h : IHas w b n f) (j : Nat) : w.frozen? ⟨b, j, none⟩ = false := by
  obtain ⟨c, hb, _, _⟩ := h
  simp [World.frozen?, hb]
theorem IHas.lt {w : World} {b n : Nat} {f : Nat → Int} (h : IHas w b n f) : b < w.heap.size := by
  obtain ⟨c, hb, _, _⟩ := h
  exact (Array.getElem?_eq_some_iff.1 hb).1
theorem IHas.of_block {w w' : World} {b n : Nat} {f : Nat → Int} (h : IHas w b n f) (e : w'.heap[b]? = w.heap[b]?) : IHas w' b n f := by
  obtain ⟨c, hb, hn, hc⟩ := h
  exact ⟨c, e.trans hb, hn, hc⟩
theorem IHas.congr {w : World} {b n : Nat} {f g : Nat → Int} (h : IHas w b n f) (e : ∀ j, j < n → f j = g j) : IHas w b n g := by
  obtain ⟨c, hb, hn, hc⟩ := h
  exact ⟨c, hb, hn, fun j hj => by rw [hc j hj, e j hj]⟩
theorem IHas.set {w : World} {b n : Nat} {f : Nat → Int} (h : IHas w b n f) (i : Nat) (v : Int) : IHas (w.setCell ⟨b, i, none⟩ (.int .i64 v)) b n (fun j => if j = i then v else f j) := by
  obtain ⟨c, hb, hn, hc⟩ := h
  refine ⟨c.setIfInBounds i (.int .i64 v), ?_, by simpa using hn, fun j hj => ?_⟩
  · simp [World.setCell, Array.getElem?_modify, hb]
  · rw [Array.getElem?_setIfInBounds]
    by_cases e : j = i
    · subst e
      simp; omega
    · rw [if_neg (fun h => e h.symm)]
      show c[j]? = some (.int .i64 (if j = i then v else f j))
      rw [if_neg e]
      exact hc j hj
theorem IHas.row {w : World} {b n : Nat} {f : Nat → Int} (h : IHas w b n f) : IRow w (some ⟨b, 0, none⟩) n f := fun k hk => ⟨b, 0, rfl, by simpa using h.cell hk⟩
theorem IHas.below {w w' : World} {b n B : Nat} {f : Nat → Int} (h : IHas w b n f) (hb : Below B w w') (hB : b < B) : IHas w' b n f := h.of_block (hb.block b hB)
theorem IHas.grown {w w' : World} {b n : Nat} {f : Nat → Int} {row : Option Nat} (h : IHas w b n f) (hg : w.grownBy w' row) (hne : some b ≠ row) : IHas w' b n f := h.of_block (hg.block b h.lt hne)
theorem IHas.of_row {w : World} {b n : Nat} {f : Nat → Int} (h : w.rowIs b 2 n (fun j => .int .i64 (f j))) : IHas w b n f := by
  obtain ⟨c, hb, hn, hc⟩ := h
  exact ⟨c, hb, by omega, hc⟩

theorem Try.infoInt : (Try.prog.info? 2).map (fun i => (i.zero, i.size, i.bytes)) = some (some (.int .i64 0), 1, 8) := by kernel_rfl
theorem make_ints (n : Nat) (hn : n ≤ 1048576) (w : World) :
    (Instr.makeSlice 22 (.int .i64 (n : Int)) (.int .i64 (n : Int))).run Try.prog w = .ok (.slice (some ⟨w.heap.size, 0, none⟩) n n) (w.alloc (.cells (madeCells #[.int .i64 0] n) 2)) :=
  run_make_row' 22 2 _ 8 Try.underlying22 Try.infoInt rfl .i64 .i64 n (by omega) (by omega) w
theorem made_ints (w : World) (n : Nat) : IHas (w.alloc (.cells (madeCells #[.int .i64 0] n) 2)) w.heap.size n (fun _ => 0) := IHas.of_row (World.rowIs_made w _ n _)





end Go.Proofs.Ytjabllghohapgah

/-
  What the exact laws' own helpers do with lists of numbers: two are held against each other, one is marked, one is looked at for its marks.
-/
set_option linter.unusedVariables false
set_option linter.unusedSimpArgs false
namespace Go.Proofs.Ytjabllghohapgah
open Go.RowKit
attribute [local go_sem ↓] Go.wp_at_zero Go.wp_at_succ

set_option maxHeartbeats 800000 in
theorem eqInt64S_same (ao ao' : Option Addr) (n cap cap' : Nat) (f : Nat → Int) (hn : n ≤ 1048576) (w : World) (hr : IRow w ao n f) (hr' : IRow w ao' n f) :
    Calls Try.prog 33 #[.slice ao n cap, .slice ao' n cap'] w fun e w' => e = .returned (.bool true) ∧ Below w.heap.size w w' := by
  go_enter Try.func33, Try.ntmps33
  go_wp2
  go_loopw [5] (fun i wr => ∃ k : Nat, k ≤ n ∧ i = .int .i64 k ∧ Below w.heap.size w wr) (fun i _ => n - (intOf i).toNat)
  case atStart => exact ⟨0, Nat.zero_le _, rfl, Below.refl _ _⟩
  case round =>
    obtain ⟨k, hk, rfl, hbel⟩ := hrel
    by_cases hlt : k < n
    rotate_left
    · have hkn : k = n := by omega
      subst hkn
      go_wp2
      go_ret
      exact ⟨rfl, hbel⟩
    obtain ⟨b, o, hao, c0⟩ := (hr.below hbel (Nat.le_refl _)) k hlt
    obtain ⟨b', o', hao', d0⟩ := (hr'.below hbel (Nat.le_refl _)) k hlt
    subst hao
    subst hao'
    have hk1 : (0 : Int) ≤ (k : Int) := by omega
    have hk2 : (k : Int) < (n : Int) := by omega
    go_wp2
    go_quiet (fail)
    go_wp2
    go_roundw
    case rel => exact ⟨k + 1, by omega, by go_num, below_drewN hbel _⟩
    case measure => simp [intOf]; omega

/-- The marks: number j holds k + j. -/
def mki (k : Int) (j : Nat) : Int := k + j

set_option maxHeartbeats 1000000 in
theorem markInt64S_any (b n cap : Nat) (f : Nat → Int) (k : Int) (hk0 : 0 ≤ k) (hk1 : k ≤ 4000000) (hn : n ≤ 1048576) (w : World) (h : 0 < n → IHas w b n f) (ao : Option Addr) (hao : 0 < n → ao = some ⟨b, 0, none⟩) :
    Calls Try.prog 34 #[.slice ao n cap, .int .i64 k] w fun e w' => e = .returned (.int .i64 (k + n)) ∧ (0 < n → IHas w' b n (mki k)) ∧ w.grownBy w' (some b) := by
  go_enter Try.func34, Try.ntmps34
  go_wp2
  go_loopw [1, 5] (fun q i wr => ∃ m : Nat, m ≤ n ∧ i = .int .i64 m ∧ q = .int .i64 (k + m) ∧ (0 < n → IHas wr b n (fun j => if j < m then mki k j else f j)) ∧ w.grownBy wr (some b)) (fun _ i _ => n - (intOf i).toNat)
  case atStart => exact ⟨0, Nat.zero_le _, rfl, by simp, fun hp => (h hp).congr (fun j _ => by simp), World.grownBy.refl _ _⟩
  case round =>
    obtain ⟨m, hm, rfl, rfl, hh, hg⟩ := hrel
    by_cases hlt : m < n
    rotate_left
    · have e : m = n := by omega
      subst e
      go_wp2
      go_ret
      exact ⟨rfl, fun hp => (hh hp).congr (fun j hj => by rw [if_pos (by omega)]), hg⟩
    obtain rfl := hao (by omega)
    have HH := hh (by omega)
    have d0 := HH.cell (j := m) (by omega)
    have z0 := HH.frozen m
    have R := HH.set m (k + m)
    have S := hg.trans (gr_setCell _ b m (.int .i64 (k + m)))
    clear HH hh
    go_wp2
    go_roundw
    case rel =>
      refine ⟨m + 1, by omega, by go_num, by go_num, fun _ => R.congr (fun j hj => ?_), S⟩
      by_cases e0 : j = m
      · subst e0; simp [mki]
      simp only [if_neg e0]
      by_cases hl : j < m
      · rw [if_pos hl, if_pos (by omega)]
      · rw [if_neg hl, if_neg (by omega)]
    case measure => simp [intOf]; omega

set_option maxHeartbeats 1000000 in
theorem heldInt64S_any (b n cap : Nat) (k : Int) (hk0 : 0 ≤ k) (hk1 : k ≤ 4000000) (hn : n ≤ 1048576) (w : World) (h : 0 < n → IHas w b n (mki k)) (ao : Option Addr) (hao : 0 < n → ao = some ⟨b, 0, none⟩) :
    Calls Try.prog 35 #[.slice ao n cap, .int .i64 k] w fun e w' => e = .returned (.int .i64 (k + n)) ∧ w' = w := by
  go_enter Try.func35, Try.ntmps35
  go_wp2
  go_loop [1, 5] (fun q i => ∃ m : Nat, m ≤ n ∧ i = .int .i64 m ∧ q = .int .i64 (k + m)) (fun _ i => n - (intOf i).toNat)
  case atStart => exact ⟨0, Nat.zero_le _, rfl, by simp⟩
  case round =>
    obtain ⟨m, hm, rfl, rfl⟩ := hrel
    by_cases hlt : m < n
    rotate_left
    · have e : m = n := by omega
      subst e
      go_wp2
      go_ret
      exact ⟨rfl, rfl⟩
    obtain rfl := hao (by omega)
    have HH := h (by omega)
    have d0 : w.cell? ⟨b, m, none⟩ = some (.int .i64 (k + m)) := by
      rw [HH.cell (by omega)]; simp [mki]
    clear HH
    go_wp2
    go_round
    case rel => exact ⟨m + 1, by omega, by go_num, by go_num⟩
    case measure => simp [intOf]; omega

end Go.Proofs.Ytjabllghohapgah

/-
  Plain: the way of an edge, as the document unpacks it and as the program's stack does.
-/
set_option linter.unusedVariables false
set_option linter.unusedSimpArgs false
namespace Go.Proofs.Ytjabllghohapgah

/-- What a way is unpacked from: which ranks have an edge, the weights down and up along it, the places, the arcs' weights. -/
structure Net where
  hs : Nat → Nat → Bool
  D : Nat → Nat → Int
  U : Nat → Nat → Int
  O : Nat → Int
  lw : Int → Int → Int
/-- The ranks that a step leads from and to. -/
def frR (lo hi : Nat) (up : Bool) : Nat := if up = true then lo else hi
def toR (lo hi : Nat) (up : Bool) : Nat := if up = true then hi else lo
def Net.wt (x : Net) (lo hi : Nat) (up : Bool) : Int := if up = true then x.U lo hi else x.D lo hi
def Net.isA (x : Net) (lo hi : Nat) (up : Bool) : Bool := decide (x.lw (x.O (frR lo hi up)) (x.O (toR lo hi up)) = x.wt lo hi up)
def addF (a b : Int) : Int := min 1000000000000 (a + b)
def Net.fit (x : Net) (lo hi : Nat) (up : Bool) (w : Nat) : Bool := (x.hs w (frR lo hi up) && x.hs w (toR lo hi up)) && decide (addF (x.D w (frR lo hi up)) (x.U w (toR lo hi up)) = x.wt lo hi up)
/-- The first rank below over which a step is as long as it is. -/
def Net.fst (x : Net) (lo hi : Nat) (up : Bool) : Option Nat := (List.range lo).find? (x.fit lo hi up)
theorem Net.fst_lt {x : Net} {lo hi w : Nat} {up : Bool} (h : x.fst lo hi up = some w) : w < lo := by
  have := List.mem_of_find?_eq_some h
  simpa using this
theorem Net.fst_fit {x : Net} {lo hi w : Nat} {up : Bool} (h : x.fst lo hi up = some w) : x.fit lo hi up w = true := List.find?_some h
/-- The halves of a step: none where it is an arc of its own, or has none. -/
def Net.half (x : Net) (lo hi : Nat) (up : Bool) : Option Nat := if x.isA lo hi up = true then none else x.fst lo hi up
theorem Net.half_lt {x : Net} {lo hi w : Nat} {up : Bool} (h : x.half lo hi up = some w) : w < lo := by
  unfold Net.half at h
  split at h
  · cases h
  · exact x.fst_lt h
theorem Net.half_fit {x : Net} {lo hi w : Nat} {up : Bool} (h : x.half lo hi up = some w) : x.fit lo hi up w = true := by
  unfold Net.half at h
  split at h
  · cases h
  · exact x.fst_fit h
/-- The places of a step's way, behind its first. -/
def Net.wy (x : Net) (lo hi : Nat) (up : Bool) : List Int :=
  match h : x.half lo hi up with
  | some w => x.wy w (frR lo hi up) false ++ x.wy w (toR lo hi up) true
  | none => [x.O (toR lo hi up)]
termination_by lo
decreasing_by
  · exact x.half_lt h
  · exact x.half_lt h
theorem Net.wy_some {x : Net} {lo hi w : Nat} {up : Bool} (h : x.half lo hi up = some w) : x.wy lo hi up = x.wy w (frR lo hi up) false ++ x.wy w (toR lo hi up) true := by
  rw [Net.wy]
  split
  · next w' h' => rw [h] at h'; cases h'; rfl
  · next h' => rw [h] at h'; cases h'
theorem Net.wy_none {x : Net} {lo hi : Nat} {up : Bool} (h : x.half lo hi up = none) : x.wy lo hi up = [x.O (toR lo hi up)] := by
  rw [Net.wy]
  split
  · next w' h' => rw [h] at h'; cases h'
  · rfl
theorem Net.wy_len (x : Net) : ∀ (lo hi : Nat) (up : Bool), 1 ≤ (x.wy lo hi up).length ∧ (x.wy lo hi up).length ≤ 2 ^ lo := by
  intro lo
  induction lo using Nat.strongRecOn with
  | ind lo ih =>
    intro hi up
    cases h : x.half lo hi up with
    | none =>
      rw [Net.wy_none h]
      exact ⟨by simp, by simpa using Nat.one_le_two_pow⟩
    | some w =>
      rw [Net.wy_some h]
      have hw := x.half_lt h
      have h1 := ih w hw (frR lo hi up) false
      have h2 := ih w hw (toR lo hi up) true
      have h3 : 2 ^ (w + 1) ≤ 2 ^ lo := Nat.pow_le_pow_right (by omega) (by omega)
      rw [Nat.pow_succ] at h3
      simp only [List.length_append]
      omega
/-- A stack of steps, the last on top: the places that are still to come, and how much is still to do. -/
def Net.rest (x : Net) : List (Nat × Nat × Bool) → List Int
  | [] => []
  | s :: st => x.wy s.1 s.2.1 s.2.2 ++ x.rest st
def Net.todo (x : Net) : List (Nat × Nat × Bool) → Nat
  | [] => 0
  | s :: st => (2 * (x.wy s.1 s.2.1 s.2.2).length - 1) + x.todo st
theorem Net.rest_some {x : Net} {lo hi w : Nat} {up : Bool} {st : List (Nat × Nat × Bool)} (h : x.half lo hi up = some w) : x.rest ((lo, hi, up) :: st) = x.rest ((w, frR lo hi up, false) :: (w, toR lo hi up, true) :: st) := by
  simp [Net.rest, Net.wy_some h]
theorem Net.rest_none {x : Net} {lo hi : Nat} {up : Bool} {st : List (Nat × Nat × Bool)} (h : x.half lo hi up = none) : x.rest ((lo, hi, up) :: st) = x.O (toR lo hi up) :: x.rest st := by
  simp [Net.rest, Net.wy_none h]
theorem Net.todo_some {x : Net} {lo hi w : Nat} {up : Bool} {st : List (Nat × Nat × Bool)} (h : x.half lo hi up = some w) : x.todo ((w, frR lo hi up, false) :: (w, toR lo hi up, true) :: st) < x.todo ((lo, hi, up) :: st) := by
  have h1 := (x.wy_len w (frR lo hi up) false).1
  have h2 := (x.wy_len w (toR lo hi up) true).1
  simp only [Net.todo, Net.wy_some h, List.length_append]
  omega
theorem Net.todo_none {x : Net} {lo hi : Nat} {up : Bool} {st : List (Nat × Nat × Bool)} (h : x.half lo hi up = none) : x.todo st < x.todo ((lo, hi, up) :: st) := by
  simp only [Net.todo, Net.wy_none h, List.length_singleton]
  omega
/-- Where a step is less than far, so are its halves. -/
theorem addF_lt {a b c : Int} (h : addF a b = c) (hc : c < 1000000000000) (ha : 0 ≤ a) (hb : 0 ≤ b) : a < 1000000000000 ∧ b < 1000000000000 := by
  unfold addF at h
  omega
/-- Where the search of a first rank stands. -/
theorem Net.fst_step {x : Net} {lo hi : Nat} {up : Bool} {w : Nat} (hw : w < lo) (hno : ∀ v, v < w → x.fit lo hi up v = false) (hy : x.fit lo hi up w = true) : x.fst lo hi up = some w := by
  unfold Net.fst
  rw [List.find?_eq_some_iff_getElem]
  refine ⟨hy, w, by simpa using hw, by simp, fun j hj => ?_⟩
  simp [hno j hj]
theorem Net.fst_end {x : Net} {lo hi : Nat} {up : Bool} (hno : ∀ v, v < lo → x.fit lo hi up v = false) : x.fst lo hi up = none := by
  unfold Net.fst
  rw [List.find?_eq_none]
  intro v hv
  simp only [List.mem_range] at hv
  simp [hno v hv]

end Go.Proofs.Ytjabllghohapgah

/-
  Lists of numbers of the call's own that grow by one: the law for the walk.
-/
set_option linter.unusedVariables false
set_option linter.unusedSimpArgs false
namespace Go.Proofs.Ytjabllghohapgah
open Go.RowKit

def icells (f : Nat → Int) (n : Nat) : List Value := (List.range n).map fun j => .int .i64 (f j)
theorem icells_at {f : Nat → Int} {n j : Nat} (hj : j < n) : (icells f n)[j]? = some (.int .i64 (f j)) := by
  rw [icells, List.getElem?_map, List.getElem?_range hj]; rfl
theorem icells_len (f : Nat → Int) (n : Nat) : (icells f n).length = n := by simp [icells]
theorem icells_congr {f g : Nat → Int} {n : Nat} (h : ∀ j, j < n → f j = g j) : icells f n = icells g n := by
  apply List.ext_getElem?
  intro j
  by_cases hj : j < n
  · rw [icells_at hj, icells_at hj, h j hj]
  · rw [List.getElem?_eq_none (by rw [icells_len]; omega), List.getElem?_eq_none (by rw [icells_len]; omega)]
theorem icells_put {f g : Nat → Int} {n : Nat} (v : Int) (h1 : ∀ j, j < n → f j = g j) (h2 : g n = v) : icells f n ++ [.int .i64 v] = icells g (n + 1) := by
  rw [icells_congr h1]
  simp [icells, List.range_succ, h2]

/-- n numbers in a block of the call's own, from block base on, with room for cap of them. -/
def IOwn (w : World) (base g cap n : Nat) (f : Nat → Int) : Prop := w.ownsRow base 2 1 (.slice (some ⟨g, 0, none⟩) n cap) n (icells f n)
theorem IOwn.has {w : World} {base g cap n : Nat} {f : Nat → Int} (h : IOwn w base g cap n f) : IHas w g n f := by
  obtain ⟨hl, h0 | ⟨g', cap', cur, hv, hb, hh, h1, h2, h3, h4⟩⟩ := h
  · simp at h0
  · simp at hv
    obtain ⟨rfl, rfl⟩ := hv
    refine ⟨cur, hh, by omega, fun j hj => ?_⟩
    have : (cur.toList.take (n * 1))[j]? = (icells f n)[j]? := by rw [h4]
    rw [List.getElem?_take_of_lt (by omega), icells_at hj] at this
    simpa using this
theorem IOwn.base {w : World} {base g cap n : Nat} {f : Nat → Int} (h : IOwn w base g cap n f) : base ≤ g := (World.ownsRow.lt h g rfl).1
theorem IOwn.congr {w : World} {base g cap n : Nat} {f f' : Nat → Int} (h : IOwn w base g cap n f) (e : ∀ j, j < n → f j = f' j) : IOwn w base g cap n f' := by
  unfold IOwn at h ⊢
  rw [← icells_congr e]; exact h
theorem IOwn.below {w w' : World} {base g cap n B : Nat} {f : Nat → Int} (h : IOwn w base g cap n f) (hb : Below B w w') (hB : g < B) : IOwn w' base g cap n f := by
  refine ⟨h.1, ?_⟩
  rcases h.2 with hn | ⟨g', cap', cur, hv, hb', hgg, rest⟩
  · exact .inl hn
  · simp at hv
    obtain ⟨rfl, rfl⟩ := hv
    exact .inr ⟨g, cap, cur, rfl, hb', (hb.block g hB).trans hgg, rest⟩
theorem IOwn.lt {w : World} {base g cap n : Nat} {f : Nat → Int} (h : IOwn w base g cap n f) : g < w.heap.size := (World.ownsRow.lt h g rfl).2
theorem IOwn.grown {w w' : World} {base g cap n : Nat} {f : Nat → Int} {b : Nat} (h : IOwn w base g cap n f) (hg : w.grownBy w' (some b)) (hne : g ≠ b) : IOwn w' base g cap n f := by
  refine ⟨h.1, ?_⟩
  rcases h.2 with hn | ⟨g', cap', cur, hv, hb', hgg, rest⟩
  · exact .inl hn
  · simp at hv
    obtain ⟨rfl, rfl⟩ := hv
    exact .inr ⟨g, cap, cur, rfl, hb', (hg.block g h.lt (by simp; exact hne)).trans hgg, rest⟩

theorem IOwn.room {w : World} {base g cap n : Nat} {f : Nat → Int} (h : IOwn w base g cap n f) : n ≤ cap := by
  obtain ⟨hl, h0 | ⟨g', cap', cur, hv, hb, hh, h1, h2, h3, h4⟩⟩ := h
  · simp at h0
  · simp at hv
    omega
/-- A new empty list. -/
theorem IOwn.empty (w : World) {base : Nat} (hb : base ≤ w.heap.size) (f : Nat → Int) : IOwn (w.alloc (.cells #[] 2)) base w.heap.size 0 0 f := by
  have := World.ownsRow_lit (base := base) (e := 2) (size := 1) w #[] 0 hb (by simp) (by simp)
  simpa [IOwn, icells] using this

theorem wpList_append_int {w : World} {ops : Array Oper} {rest : List Oper} {o : Oper} {a : Act} {Q : Exit → Act → World → Prop} (hgd : o.guard = none) (s x : Operand)
    (ho : o.op = .call { callee := .builtin .append, args := #[s, x], argTypes := #[22, 22] }) (base g cap n : Nat) (f : Nat → Int) (hs : a.eval s = .slice (some ⟨g, 0, none⟩) n cap)
    (hown : IOwn w base g cap n f) (ad : Addr) (c : Nat) (v : Int) (hx : a.eval x = .slice (some ad) 1 c) (h0 : w.cell? (ad.add 0) = some (.int .i64 v)) (hn : n ≤ 1000000000) (hbase : base ≤ w.heap.size)
    (h : ∀ g' cap' w', (∀ f', (∀ j, j < n → f' j = f j) → f' n = v → IOwn w' base g' cap' (n + 1) f') → w.grownBy w' (some g) → (g' = g ∨ g' = w.heap.size) → wpList Try.prog ops Q rest (a.put o.dst (.slice (some ⟨g', 0, none⟩) (n + 1) cap')) w') : wpList Try.prog ops Q (o :: rest) a w := by
  obtain ⟨i, hi, hz0, hz1, hz2⟩ := info_parts Try.infoInt
  refine wpList_append_lies w hgd s x 22 ho base 2 i _ 1 8 Try.underlying22 hi hz0 hz1 hz2 rfl (by omega) _ n (icells f n) hs hown ad 1 c [.int .i64 v] hx rfl ?_ ?_ (by omega) (by unfold maxLen; omega) (by omega) hbase w.heap.size rfl ?_
  · intro j u hu
    match j, hu with
    | 0, hu => simp at hu; subst hu; exact h0
    | j + 1, hu => simp at hu
  · intro u hu
    simp at hu
    subst hu; rfl
  · intro g' cap' w' hown' hgrow hat hlt
    refine h g' cap' w' (fun f' e1 e2 => ?_) hgrow ?_
    · rw [icells_put v (fun j hj => (e1 j hj).symm) e2] at hown'
      exact hown'
    · rcases hat with e | e
      · simp [Value.ownBlock] at e; exact Or.inl e.symm
      · exact Or.inr e

end Go.Proofs.Ytjabllghohapgah

/-
  A list of numbers of the call's own, or none yet, that grows by one.
-/
set_option linter.unusedVariables false
set_option linter.unusedSimpArgs false
namespace Go.Proofs.Ytjabllghohapgah
open Go.RowKit

/-- n numbers behind a slice of the call's own, or a slice that is nil. -/
def OwnE (w : World) (base : Nat) (go : Option Addr) (n cap : Nat) (f : Nat → Int) : Prop := w.ownsRow base 2 1 (.slice go n cap) n (icells f n)
theorem OwnE.nil (w : World) (base : Nat) (f : Nat → Int) : OwnE w base none 0 0 f := ⟨by simp [icells], .inl ⟨rfl, rfl⟩⟩
theorem OwnE.at {w : World} {base n cap x : Nat} {go : Option Addr} {f : Nat → Int} (h : OwnE w base go n cap f) (e : (Value.slice go n cap).ownBlock = some x) : base ≤ x ∧ x < w.heap.size := World.ownsRow.lt h x e
theorem OwnE.of_block {w w' : World} {base n cap : Nat} {go : Option Addr} {f : Nat → Int} (h : OwnE w base go n cap f) (e : ∀ x, (Value.slice go n cap).ownBlock = some x → w'.heap[x]? = w.heap[x]?) : OwnE w' base go n cap f := by
  refine ⟨h.1, ?_⟩
  rcases h.2 with hn | ⟨g', cap', cur, hv, hb', hgg, rest⟩
  · exact .inl hn
  · have e2 := e g' (by rw [hv]; rfl)
    exact .inr ⟨g', cap', cur, hv, hb', e2.trans hgg, rest⟩
theorem OwnE.next {w w' : World} {base n cap : Nat} {go : Option Addr} {f : Nat → Int} (h : OwnE w base go n cap f) (hb : Below w.heap.size w w') : OwnE w' base go n cap f := h.of_block (fun x e => hb.block x (h.at e).2)
theorem OwnE.grown {w w' : World} {base n cap : Nat} {go : Option Addr} {f : Nat → Int} {row : Option Nat} (h : OwnE w base go n cap f) (hg : w.grownBy w' row) (hne : ∀ x, (Value.slice go n cap).ownBlock = some x → row ≠ some x) : OwnE w' base go n cap f := h.of_block (fun x e => hg.block x (h.at e).2 (fun q => hne x e q.symm))
theorem OwnE.has {w : World} {base n cap : Nat} {go : Option Addr} {f : Nat → Int} (h : OwnE w base go n cap f) (hn : 0 < n) : ∃ g, go = some ⟨g, 0, none⟩ ∧ base ≤ g ∧ IHas w g n f := by
  have h' := h
  obtain ⟨hl, h0 | ⟨g', cap', cur, hv, hb, hh, h1, h2, h3, h4⟩⟩ := h
  · omega
  · simp at hv
    obtain ⟨rfl, rfl⟩ := hv
    refine ⟨g', rfl, hb, cur, hh, by omega, fun j hj => ?_⟩
    have : (cur.toList.take (n * 1))[j]? = (icells f n)[j]? := by rw [h4]
    rw [List.getElem?_take_of_lt (by omega), icells_at hj] at this
    simpa using this
/-- The room of a list of numbers is what its slice says. -/
def Cap (w : World) (b cap : Nat) : Prop := ∃ cur : Array Value, w.heap[b]? = some (.cells cur 2 (0, 0)) ∧ cap ≤ maxLen ∧ cur.size = cap
theorem Cap.of_block {w w' : World} {b cap : Nat} (h : Cap w b cap) (e : w'.heap[b]? = w.heap[b]?) : Cap w' b cap := by
  obtain ⟨c, h1, h2, h3⟩ := h
  exact ⟨c, e.trans h1, h2, h3⟩
theorem Cap.lt {w : World} {b cap : Nat} (h : Cap w b cap) : b < w.heap.size := by
  obtain ⟨c, h1, h2, h3⟩ := h
  exact (Array.getElem?_eq_some_iff.1 h1).1
theorem Cap.set {w : World} {b cap : Nat} (h : Cap w b cap) (j : Nat) (v : Value) : Cap (w.setCell ⟨b, j, none⟩ v) b cap := by
  obtain ⟨c, h1, h2, h3⟩ := h
  exact ⟨c.setIfInBounds j v, by simp [World.setCell, Array.getElem?_modify, h1], h2, by simpa using h3⟩
theorem Cap.own {w : World} {b n cap base : Nat} {f : Nat → Int} (h : Cap w b cap) (hi : IHas w b n f) (hb : base ≤ b) : OwnE w base (some ⟨b, 0, none⟩) n cap f := by
  obtain ⟨c, h1, h2, h3⟩ := h
  obtain ⟨d, g1, g2, g3⟩ := hi
  rw [h1] at g1
  simp at g1
  subst g1
  refine ⟨by simp [icells], .inr ⟨b, cap, c, rfl, hb, h1, by omega, h2, by omega, ?_⟩⟩
  apply List.ext_getElem?
  intro j
  by_cases hj : j < n
  · rw [List.getElem?_take_of_lt (by omega), icells_at hj]
    simpa using g3 j hj
  · rw [List.getElem?_eq_none (by simp; omega), List.getElem?_eq_none (by simp [icells]; omega)]
theorem OwnE.capAt {w : World} {base n cap g : Nat} {go : Option Addr} {f : Nat → Int} (h : OwnE w base go n cap f) (e : go = some ⟨g, 0, none⟩) : Cap w g cap := by
  obtain ⟨hl, h0 | ⟨g', cap', cur, hv, hb, hh, h1, h2, h3, h4⟩⟩ := h
  · rw [e] at h0; simp at h0
  · rw [e] at hv
    simp at hv
    obtain ⟨rfl, rfl⟩ := hv
    exact ⟨cur, hh, h2, by omega⟩
theorem OwnE.room {w : World} {base n cap g : Nat} {go : Option Addr} {f : Nat → Int} (h : OwnE w base go n cap f) (e : go = some ⟨g, 0, none⟩) : n ≤ cap := by
  obtain ⟨hl, h0 | ⟨g', cap', cur, hv, hb, hh, h1, h2, h3, h4⟩⟩ := h
  · rw [e] at h0; simp at h0
  · rw [e] at hv
    simp at hv
    obtain ⟨rfl, rfl⟩ := hv
    exact h1
theorem own_blk {ao : Option Addr} {n cap x : Nat} (e : (Value.slice ao n cap).ownBlock = some x) : ∃ a, ao = some a ∧ a.block = x := by
  cases ao with
  | none => simp [Value.ownBlock] at e
  | some a => exact ⟨a, rfl, by simpa [Value.ownBlock] using e⟩
theorem wp_append_own {o : Oper} {a : Act} {w : World} {K : Act → World → Prop} {Q : Exit → Act → World → Prop} (s x : Operand)
    (ho : o.op = .call { callee := .builtin .append, args := #[s, x], argTypes := #[22, 22] }) (base k gc : Nat) (go : Option Addr) (f : Nat → Int) (hs : a.eval s = .slice go k gc) (hown : OwnE w base go k gc f) (B : Nat) (hx : a.eval x = .slice (some ⟨B, 0, none⟩) 1 1)
    (hB : w.cell? ⟨B, 0, none⟩ = some (.int .i64 (f k))) (hk : k ≤ 100000000) (hbase : base ≤ w.heap.size)
    (h : ∀ g' gc' w', OwnE w' base (some ⟨g', 0, none⟩) (k + 1) gc' f → w.grownBy w' (Value.slice go k gc).ownBlock → ((Value.slice go k gc).ownBlock = some g' ∨ g' = w.heap.size) → K (a.put o.dst (.slice (some ⟨g', 0, none⟩) (k + 1) gc')) w') : o.wp Try.prog a w K Q := by
  obtain ⟨i0, hi0, hz0, hz1, hz2⟩ := info_parts Try.infoInt
  refine wp_append_lies w s x 22 ho base 2 i0 _ 1 8 Try.underlying22 hi0 hz0 hz1 hz2 rfl (by omega) _ k (icells f k) hs hown ⟨B, 0, none⟩ 1 1 [.int .i64 (f k)] hx rfl ?_ ?_ (by omega) (by unfold maxLen; omega) (by omega) hbase w.heap.size rfl ?_
  · intro j u hu
    match j, hu with
    | 0, hu => simp at hu; subst hu; exact hB
    | j + 1, hu => simp at hu
  · intro u hu
    simp at hu
    subst hu; rfl
  · intro g' gc' w' hown' hgrow hat _
    rw [icells_put (f k) (fun _ _ => rfl) rfl] at hown'
    exact h g' gc' w' hown' hgrow hat
theorem step_append_own {ops : Array Oper} {o : Oper} {a : Act} {w : World} {K : Act → World → Prop} {Q : Exit → Act → World → Prop} {E : Prop} (hgd : o.guard = none) (s x : Operand)
    (ho : o.op = .call { callee := .builtin .append, args := #[s, x], argTypes := #[22, 22] }) (base k gc : Nat) (go : Option Addr) (f : Nat → Int) (hs : a.eval s = .slice go k gc) (hown : OwnE w base go k gc f) (B : Nat) (hx : a.eval x = .slice (some ⟨B, 0, none⟩) 1 1)
    (hB : w.cell? ⟨B, 0, none⟩ = some (.int .i64 (f k))) (hk : k ≤ 100000000) (hbase : base ≤ w.heap.size)
    (h : ∀ g' gc' w', OwnE w' base (some ⟨g', 0, none⟩) (k + 1) gc' f → w.grownBy w' (Value.slice go k gc).ownBlock → ((Value.slice go k gc).ownBlock = some g' ∨ g' = w.heap.size) → K (a.put o.dst (.slice (some ⟨g', 0, none⟩) (k + 1) gc')) w') :
    if Region.wanted o (yielded ops a.tmps) = true then Oper.wp Try.prog o a w K Q else E := by
  have hw : Region.wanted o (yielded ops a.tmps) = true := by simp [Region.wanted, hgd]
  rw [if_pos hw]
  exact wp_append_own s x ho base k gc go f hs hown B hx hB hk hbase h

end Go.Proofs.Ytjabllghohapgah

/-
  A list of numbers of the call's own, told as a list, that grows by many.
-/
set_option linter.unusedVariables false
set_option linter.unusedSimpArgs false
namespace Go.Proofs.Ytjabllghohapgah
open Go.RowKit Go.Deep

def lcells (l : List Int) : List Value := l.map (.int .i64 ·)
/-- A list of numbers behind a slice of the call's own. -/
def LOwn (w : World) (base : Nat) (go : Option Addr) (cap : Nat) (l : List Int) : Prop := w.ownsRow base 2 1 (.slice go l.length cap) l.length (lcells l)
theorem lcells_icells (l : List Int) : lcells l = icells (fun j => l.getD j 0) l.length := by
  apply List.ext_getElem?
  intro j
  by_cases hj : j < l.length
  · rw [icells_at hj]
    simp [lcells, hj]
  · rw [List.getElem?_eq_none (by simp [lcells]; omega), List.getElem?_eq_none (by simp [icells]; omega)]
theorem LOwn.ownE {w : World} {base cap : Nat} {go : Option Addr} {l : List Int} (h : LOwn w base go cap l) : OwnE w base go l.length cap (fun j => l.getD j 0) := by
  unfold LOwn at h
  rw [lcells_icells] at h
  exact h
theorem LOwn.of_ownE {w : World} {base cap : Nat} {go : Option Addr} {l : List Int} (h : OwnE w base go l.length cap (fun j => l.getD j 0)) : LOwn w base go cap l := by
  unfold LOwn
  rw [lcells_icells]
  exact h
theorem LOwn.next {w w' : World} {base cap : Nat} {go : Option Addr} {l : List Int} (h : LOwn w base go cap l) (hb : Below w.heap.size w w') : LOwn w' base go cap l := .of_ownE (h.ownE.next hb)
theorem LOwn.at {w : World} {base cap x : Nat} {go : Option Addr} {l : List Int} (h : LOwn w base go cap l) (e : (Value.slice go l.length cap).ownBlock = some x) : base ≤ x ∧ x < w.heap.size := World.ownsRow.lt h x e
theorem LOwn.from {w : World} {base base' cap : Nat} {go : Option Addr} {l : List Int} (h : LOwn w base go cap l) (hb : base' ≤ base) : LOwn w base' go cap l := by
  obtain ⟨hl, h0 | ⟨g', cap', cur, hv, hb', rest⟩⟩ := h
  · exact ⟨hl, .inl h0⟩
  · exact ⟨hl, .inr ⟨g', cap', cur, hv, Nat.le_trans hb hb', rest⟩⟩
theorem LOwn.grown {w w' : World} {base cap : Nat} {go : Option Addr} {l : List Int} {row : Option Nat} (h : LOwn w base go cap l) (hg : w.grownBy w' row) (hne : ∀ x, (Value.slice go l.length cap).ownBlock = some x → row ≠ some x) : LOwn w' base go cap l := .of_ownE (h.ownE.grown hg hne)
/-- Its cells. -/
theorem LOwn.cells {w : World} {base cap : Nat} {go : Option Addr} {l : List Int} (h : LOwn w base go cap l) (hl : 0 < l.length) : ∃ g, go = some ⟨g, 0, none⟩ ∧ base ≤ g ∧ g < w.heap.size ∧ ∀ j u, l[j]? = some u → w.cell? ⟨g, j, none⟩ = some (.int .i64 u) := by
  obtain ⟨g, e, hb, hh⟩ := h.ownE.has hl
  refine ⟨g, e, hb, hh.lt, fun j u hu => ?_⟩
  have hj : j < l.length := (List.getElem?_eq_some_iff.1 hu).1
  have := hh.cell hj
  rw [this]
  simp [List.getD_eq_getElem?_getD, hu]
theorem LOwn.cap {w : World} {base g cap : Nat} {l : List Int} (h : LOwn w base (some ⟨g, 0, none⟩) cap l) : l.length ≤ cap := by
  rcases h.2 with ⟨e, _⟩ | ⟨g', cap', cur, e, _, _, h2, _⟩
  · cases e
  · simp only [Value.slice.injEq, Option.some.injEq, Addr.mk.injEq, and_true, true_and] at e
    obtain ⟨rfl, rfl⟩ := e
    exact h2
theorem wp_appL {o : Oper} {a : Act} {w : World} {K : Act → World → Prop} {Q : Exit → Act → World → Prop} (s x : Operand)
    (ho : o.op = .call { callee := .builtin .append, args := #[s, x], argTypes := #[22, 22] }) (d : Nat) (hd : o.dst = some d) (base gc : Nat) (go : Option Addr) (l l2 : List Int) (hs : a.eval s = .slice go l.length gc) (hown : LOwn w base go gc l) (b i m c : Nat) (hm : l2.length = m) (hx : a.eval x = .slice (some ⟨b, i, none⟩) m c)
    (h0 : ∀ j u, l2[j]? = some u → w.cell? ⟨b, i + j, none⟩ = some (.int .i64 u)) (hk0 : 0 < m) (hk : l.length ≤ 1000000000) (hk2 : m ≤ 1000000000) (hbase : base ≤ w.heap.size)
    (h : ∀ g' gc' w', LOwn w' base (some ⟨g', 0, none⟩) gc' (l ++ l2) → w.grownBy w' (Value.slice go l.length gc).ownBlock → ((Value.slice go l.length gc).ownBlock = some g' ∨ g' = w.heap.size) → K (a.put (some d) (.slice (some ⟨g', 0, none⟩) (l.length + m) gc')) w') : o.wp Try.prog a w K Q := by
  obtain ⟨i0, hi0, hz0, hz1, hz2⟩ := info_parts Try.infoInt
  subst hm
  refine wp_append_lies w s x 22 ho base 2 i0 _ 1 8 Try.underlying22 hi0 hz0 hz1 hz2 rfl (by omega) _ l.length (lcells l) hs hown ⟨b, i, none⟩ l2.length c (lcells l2) hx (by simp [lcells]) ?_ ?_ hk0 (by unfold maxLen; omega) (by omega) hbase w.heap.size rfl ?_
  · intro j u hu
    simp only [lcells, List.getElem?_map, Option.map_eq_some_iff] at hu
    obtain ⟨v, hv, rfl⟩ := hu
    have : (⟨b, i, none⟩ : Addr).add j = ⟨b, i + j, none⟩ := by unfold Addr.add; split <;> simp_all
    rw [this]
    exact h0 j v hv
  · intro u hu
    simp [lcells] at hu
    obtain ⟨j, _, rfl⟩ := hu
    rfl
  · intro g' gc' w' hown' hgrow hat _
    have e : lcells l ++ lcells l2 = lcells (l ++ l2) := by simp [lcells]
    rw [e] at hown'
    rw [hd]
    exact h g' gc' w' (by unfold LOwn; rw [List.length_append]; exact hown') hgrow hat

end Go.Proofs.Ytjabllghohapgah

/-
  An answer of yes or no.
-/
set_option linter.unusedVariables false
namespace Go.Proofs.Ytjabllghohapgah
open Go

/-- What is answered: true just where what is asked holds. -/
def BAns (e : Ending) (P : Prop) : Prop := ∃ v : Bool, e = .returned (.bool v) ∧ (v = true ↔ P)
theorem bans_no {P : Prop} (h : ¬ P) : BAns (.returned (.bool false)) P := ⟨false, rfl, by simp [h]⟩
theorem bans_yes {P : Prop} (h : P) : BAns (.returned (.bool true)) P := ⟨true, rfl, by simp [h]⟩

end Go.Proofs.Ytjabllghohapgah

/-
  Is a number within two others: the document's and the program's question. No condition.
-/
set_option linter.unusedVariables false
set_option linter.unusedSimpArgs false
namespace Go.Proofs.Ytjabllghohapgah
open Go.RowKit

theorem l1In_any (x lo hi : Int) (w : World) :
    Calls Try.prog 46 #[.int .i64 x, .int .i64 lo, .int .i64 hi] w fun e w' => e = .returned (.bool (inB x lo hi)) ∧ w' = w := by
  by_cases h1 : lo ≤ x <;> by_cases h2 : x ≤ hi <;>
  · go_enter Try.func46, Try.ntmps46
    go_wp2
    go_ret
    exact ⟨by simp [inB, h1, h2], rfl⟩
theorem placeOk_any (x p : Int) (w : World) :
    Calls Try.prog 79 #[.int .i64 x, .int .i64 p] w fun e w' => e = .returned (.bool (inB x 0 (p - 1))) ∧ w' = w := by
  by_cases h1 : 0 ≤ x <;> by_cases h2 : x < p <;>
  · go_enter Try.func79, Try.ntmps79
    go_wp2
    go_ret
    exact ⟨by simp [inB, h1]; omega, rfl⟩

end Go.Proofs.Ytjabllghohapgah

/-
  Lists of edges: read behind an address, of the call's own, written. Two numbers an edge.
-/
set_option linter.unusedVariables false
set_option linter.unusedSimpArgs false
namespace Go.Proofs.Ytjabllghohapgah
open Go.RowKit

/-- Cell j of edges that lie one behind the other. -/
def er (L H : Nat → Int) (j : Nat) : Int := if j % 2 = 0 then L (j / 2) else H (j / 2)
theorem er0 (L H : Nat → Int) (k : Nat) : er L H (k * 2) = L k := by
  unfold er; rw [if_pos (by omega)]; congr 1; omega
theorem er1 (L H : Nat → Int) (k : Nat) : er L H (k * 2 + 1) = H k := by
  unfold er; rw [if_neg (by omega)]; congr 1; omega

/-- n edges lie behind a slice's address. -/
def ERow (w : World) (ao : Option Addr) (n : Nat) (L H : Nat → Int) : Prop := ∀ k, k < n → ∃ b o, ao = some ⟨b, o, none⟩ ∧
  w.cell? ⟨b, o + k * 2, none⟩ = some (.int .i64 (L k)) ∧ w.cell? ⟨b, o + k * 2 + 1, none⟩ = some (.int .i64 (H k))
theorem ERow.below {w w' : World} {B : Nat} {ao : Option Addr} {n : Nat} {L H : Nat → Int} (h : ERow w ao n L H) (hb : Below B w w') (hB : w.heap.size ≤ B) : ERow w' ao n L H := fun k hk => by
  obtain ⟨b, o, e, c0, c1⟩ := h k hk
  have hlt := lt_of_cell c0
  exact ⟨b, o, e, by rw [hb.cell (by simp; omega)]; exact c0, by rw [hb.cell (by simp; omega)]; exact c1⟩
theorem ERow.alloc {w : World} {ao : Option Addr} {n : Nat} {L H : Nat → Int} (h : ERow w ao n L H) (o : Obj) : ERow (w.alloc o) ao n L H := h.below ((Below.refl w.heap.size w).alloc (Nat.le_refl _) o) (Nat.le_refl _)
theorem ERow.congr {w : World} {ao : Option Addr} {n : Nat} {L H L' H' : Nat → Int} (h : ERow w ao n L H) (e1 : ∀ k, k < n → L k = L' k) (e2 : ∀ k, k < n → H k = H' k) : ERow w ao n L' H' := fun k hk => by
  obtain ⟨b, o, h1, h2, h3⟩ := h k hk
  exact ⟨b, o, h1, by rw [h2, e1 k hk], by rw [h3, e2 k hk]⟩
theorem ERow.less {w : World} {ao : Option Addr} {n m : Nat} {L H : Nat → Int} (h : ERow w ao n L H) (hm : m ≤ n) : ERow w ao m L H := fun k hk => h k (by omega)

/-- Block b begins with n edges of the call's own, which may be written. -/
def EHas (w : World) (b n : Nat) (f : Nat → Int) : Prop := ∃ cur : Array Value, w.heap[b]? = some (.cells cur 71 (0, 0)) ∧ n * 2 ≤ cur.size ∧ ∀ j, j < n * 2 → cur[j]? = some (.int .i64 (f j))
theorem EHas.cell {w : World} {b n : Nat} {f : Nat → Int} (h : EHas w b n f) {j : Nat} (hj : j < n * 2) : w.cell? ⟨b, j, none⟩ = some (.int .i64 (f j)) := by
  obtain ⟨c, hb, _, hc⟩ := h
  simp [World.cell?, hb, hc j hj]
theorem EHas.frozen {w : World} {b n : Nat} {f : Nat → Int} (h : EHas w b n f) (j : Nat) : w.frozen? ⟨b, j, none⟩ = false := by
  obtain ⟨c, hb, _, _⟩ := h
  simp [World.frozen?, hb]
theorem EHas.lt {w : World} {b n : Nat} {f : Nat → Int} (h : EHas w b n f) : b < w.heap.size := by
  obtain ⟨c, hb, _, _⟩ := h
  exact (Array.getElem?_eq_some_iff.1 hb).1
theorem EHas.of_block {w w' : World} {b n : Nat} {f : Nat → Int} (h : EHas w b n f) (e : w'.heap[b]? = w.heap[b]?) : EHas w' b n f := by
  obtain ⟨c, hb, hn, hc⟩ := h
  exact ⟨c, e.trans hb, hn, hc⟩
theorem EHas.congr {w : World} {b n : Nat} {f g : Nat → Int} (h : EHas w b n f) (e : ∀ j, j < n * 2 → f j = g j) : EHas w b n g := by
  obtain ⟨c, hb, hn, hc⟩ := h
  exact ⟨c, hb, hn, fun j hj => by rw [hc j hj, e j hj]⟩
theorem EHas.set {w : World} {b n : Nat} {f : Nat → Int} (h : EHas w b n f) (i : Nat) (v : Int) : EHas (w.setCell ⟨b, i, none⟩ (.int .i64 v)) b n (fun j => if j = i then v else f j) := by
  obtain ⟨c, hb, hn, hc⟩ := h
  refine ⟨c.setIfInBounds i (.int .i64 v), ?_, by simpa using hn, fun j hj => ?_⟩
  · simp [World.setCell, Array.getElem?_modify, hb]
  · rw [Array.getElem?_setIfInBounds]
    by_cases e : j = i
    · subst e
      simp; omega
    · rw [if_neg (fun h => e h.symm)]
      show c[j]? = some (.int .i64 (if j = i then v else f j))
      rw [if_neg e]
      exact hc j hj
theorem EHas.row {w : World} {b n : Nat} {L H : Nat → Int} (h : EHas w b n (er L H)) : ERow w (some ⟨b, 0, none⟩) n L H := fun k hk => by
  refine ⟨b, 0, rfl, ?_, ?_⟩
  · have := h.cell (j := k * 2) (by omega); rw [er0] at this; simpa using this
  · have := h.cell (j := k * 2 + 1) (by omega); rw [er1] at this; simpa using this
theorem EHas.below {w w' : World} {b n B : Nat} {f : Nat → Int} (h : EHas w b n f) (hb : Below B w w') (hB : b < B) : EHas w' b n f := h.of_block (hb.block b hB)
theorem EHas.next {w w' : World} {b n : Nat} {f : Nat → Int} (h : EHas w b n f) (hb : Below w.heap.size w w') : EHas w' b n f := h.below hb h.lt
theorem EHas.grown {w w' : World} {b n : Nat} {f : Nat → Int} {row : Option Nat} (h : EHas w b n f) (hg : w.grownBy w' row) (hne : some b ≠ row) : EHas w' b n f := h.of_block (hg.block b h.lt hne)
theorem EHas.of_row {w : World} {b n : Nat} {f : Nat → Int} (h : w.rowIs b 71 (n * 2) (fun j => .int .i64 (f j))) : EHas w b n f := by
  obtain ⟨c, hb, hn, hc⟩ := h
  exact ⟨c, hb, by omega, hc⟩

theorem Try.infoEdge : (Try.prog.info? 71).map (fun i => (i.zero, i.size, i.bytes)) = some (some (.agg #[.int .i64 0, .int .i64 0]), 2, 16) := by kernel_rfl

/-- An answered list of edges, of the call's own. -/
def EAns (w w' : World) (e : Ending) (m : Nat) (L H : Nat → Int) : Prop := ∃ ao cap, e = .returned (.slice ao m cap) ∧ (0 < m → ∃ g, ao = some ⟨g, 0, none⟩ ∧ w.heap.size ≤ g ∧ EHas w' g m (er L H)) ∧ Below w.heap.size w w'

end Go.Proofs.Ytjabllghohapgah

/-
  Which edges are as told: the document's and the program's look, each held against one plain function of the edges.
-/
set_option linter.unusedVariables false
set_option linter.unusedSimpArgs false
namespace Go.Proofs.Ytjabllghohapgah
open Go.RowKit
attribute [local go_sem ↓] Go.wp_at_zero Go.wp_at_succ

def edgeB (l h p : Int) : Bool := inB l 0 (p - 1) && inB h (l + 1) (p - 1)
def edB (p : Int) (L H : Nat → Int) : Nat → Bool
  | 0 => true
  | k + 1 => edB p L H k && (edgeB (L k) (H k) p && (k == 0 || upB (L (k - 1)) (H (k - 1)) (L k) (H k)))
def edgesB (p : Int) (n : Nat) (L H : Nat → Int) : Bool := inB p 1 24 && edB p L H n

theorem edB_no {p : Int} {L H : Nat → Int} {k : Nat} (h : edgeB (L k) (H k) p = false) : ∀ n, k < n → edB p L H n = false
  | 0, hk => by omega
  | n + 1, hk => by
    by_cases e : k = n
    · subst e; simp [edB, h]
    · simp [edB, edB_no h n (by omega)]
theorem edB_down {p : Int} {L H : Nat → Int} {k : Nat} (h0 : 0 < k) (h : upB (L (k - 1)) (H (k - 1)) (L k) (H k) = false) : ∀ n, k < n → edB p L H n = false
  | 0, hk => by omega
  | n + 1, hk => by
    by_cases e : k = n
    · subst e
      have : (k == 0) = false := by simp; omega
      simp [edB, h, this]
    · simp [edB, edB_down h0 h n (by omega)]
theorem edB_step {p : Int} {L H : Nat → Int} {k : Nat} (h : edB p L H k = true) (ha : edgeB (L k) (H k) p = true) (hu : k = 0 ∨ upB (L (k - 1)) (H (k - 1)) (L k) (H k) = true) : edB p L H (k + 1) = true := by
  rcases hu with hu | hu
  · subst hu; simp [edB, ha]
  · simp [edB, h, ha, hu]
theorem edB_at {p : Int} {L H : Nat → Int} : ∀ n, edB p L H n = true → ∀ k, k < n → edgeB (L k) (H k) p = true
  | 0, _, k, hk => by omega
  | n + 1, h, k, hk => by
    simp [edB] at h
    by_cases e : k = n
    · subst e; exact h.2.1
    · exact edB_at n h.1 k (by omega)
theorem edgeB_in {l h p : Int} (H : edgeB l h p = true) : 0 ≤ l ∧ l < h ∧ h < p := by
  simp [edgeB, inB] at H
  omega
theorem edgeB_false1 {l h p : Int} (H : inB l 0 (p - 1) = false) : edgeB l h p = false := by simp [edgeB, H]
theorem edgeB_false2 {l h p : Int} (H : inB h (l + 1) (p - 1) = false) : edgeB l h p = false := by simp [edgeB, H]
theorem edgeB_true {l h p : Int} (h1 : inB l 0 (p - 1) = true) (h2 : inB h (l + 1) (p - 1) = true) : edgeB l h p = true := by simp [edgeB, h1, h2]
theorem inB_in {x lo hi : Int} (h : inB x lo hi = true) : lo ≤ x ∧ x ≤ hi := by simpa [inB] using h

set_option maxHeartbeats 800000 in
theorem edgeOk_any (l h p : Int) (w : World) :
    Calls Try.prog 111 #[.agg #[.int .i64 l, .int .i64 h], .int .i64 p] w fun e w' => e = .returned (.bool (edgeB l h p)) ∧ Below w.heap.size w w' := by
  have e : edgeB l h p = (decide (0 ≤ l) && (decide (l < h) && decide (h < p))) := by
    unfold edgeB inB
    rw [Bool.eq_iff_iff]
    simp
    omega
  rw [e]
  clear e
  by_cases h1 : 0 ≤ l
  · by_cases h2 : l < h
    · by_cases h3 : h < p <;>
      · go_enter Try.func111, Try.ntmps111
        go_wp2
        go_ret
        exact ⟨by simp [h1, h2, h3], (Below.refl _ _).alloc (Nat.le_refl _) _⟩
    · go_enter Try.func111, Try.ntmps111
      go_wp2
      go_ret
      exact ⟨by simp [h2]; omega, (Below.refl _ _).alloc (Nat.le_refl _) _⟩
  · go_enter Try.func111, Try.ntmps111
    go_wp2
    go_ret
    exact ⟨by simp [h1]; omega, (Below.refl _ _).alloc (Nat.le_refl _) _⟩

set_option maxHeartbeats 1600000 in
theorem l4Edges_any (p : Int) (ao : Option Addr) (n cap : Nat) (L H : Nat → Int) (hn : n ≤ 1048576) (w : World) (hr : ERow w ao n L H) :
    Calls Try.prog 86 #[.slice ao n cap, .int .i64 p] w fun e w' => e = .returned (.bool (edgesB p n L H)) ∧ Below w.heap.size w w' := by
  by_cases h1 : inB p 1 24 = true
  rotate_left
  · have h1 : inB p 1 24 = false := by simpa using h1
    go_enter Try.func86, Try.ntmps86
    go_wp2_with (go_at_call 46; refine (l1In_any _ _ _ _).mono ?_; rintro e w1 ⟨rfl, rfl⟩)
    go_ret
    exact ⟨by simp [edgesB, h1], Below.refl _ _⟩
  have hp : 1 ≤ p ∧ p ≤ 24 := by simpa [inB] using h1
  obtain ⟨hp1, hp2⟩ := hp
  go_enter Try.func86, Try.ntmps86
  go_wp2_with (go_at_call 46; refine (l1In_any _ _ _ _).mono ?_; rintro e w1 ⟨rfl, hq⟩; have hq' := hq.symm; subst hq'; clear hq)
  go_loopw [5] (fun i wr => ∃ k : Nat, k ≤ n ∧ i = .int .i64 k ∧ edB p L H k = true ∧ Below w.heap.size w wr) (fun i _ => n - (intOf i).toNat)
  case atStart => exact ⟨0, Nat.zero_le _, rfl, rfl, Below.refl _ _⟩
  case round =>
    obtain ⟨k, hk, rfl, hok, hbel⟩ := hrel
    have HOK : Hid (edB p L H k = true) := hok
    clear hok
    by_cases hlt : k < n
    rotate_left
    · have hkn : k = n := by omega
      subst hkn
      go_wp2
      go_ret
      exact ⟨ret_bool (by simp [edgesB, h1, HOK.out]), hbel⟩
    obtain ⟨b, o, hao, c0, c1⟩ := (hr.below hbel (Nat.le_refl _)) k hlt
    subst hao
    have hsz := hbel.size
    rcases Bool.eq_false_or_eq_true (inB (L k) 0 (p - 1)) with ha | ha
    rotate_left
    · go_wp2_with (go_at_call 46; refine (l1In_any _ _ _ _).mono ?_; rintro e w1 ⟨rfl, rfl⟩)
      go_ret
      exact ⟨ret_bool (by simp [edgesB, h1, edB_no (edgeB_false1 ha) n hlt]), hbel.alloc (by omega) _⟩
    have hl := inB_in ha
    rcases Bool.eq_false_or_eq_true (inB (H k) (L k + 1) (p - 1)) with hb | hb
    rotate_left
    · go_wp2_with (go_at_call 46; refine (l1In_any _ _ _ _).mono ?_; rintro e w1 ⟨rfl, rfl⟩)
      go_ret
      exact ⟨ret_bool (by simp [edgesB, h1, edB_no (edgeB_false2 hb) n hlt]), hbel.alloc (by omega) _⟩
    have HE : Hid (edgeB (L k) (H k) p = true) := edgeB_true ha hb
    by_cases h0 : 0 < k
    rotate_left
    · go_wp2_with (go_at_call 46; refine (l1In_any _ _ _ _).mono ?_; rintro e w1 ⟨rfl, rfl⟩)
      go_roundw
      case rel => exact ⟨k + 1, by omega, by go_num, edB_step HOK.out HE.out (Or.inl (by omega)), hbel.alloc (by omega) _⟩
      case measure => simp [intOf]; omega
    have hbw : b < wr.heap.size := lt_of_cell c0
    obtain ⟨b', o', hao', d0, d1⟩ := (hr.below hbel (Nat.le_refl _)) (k - 1) (by omega)
    simp only [Option.some.injEq, Addr.mk.injEq, and_true] at hao'
    obtain ⟨rfl, rfl⟩ := hao'
    rcases Int.lt_trichotomy (L (k - 1)) (L k) with hF | hF | hF
    · go_wp2_with (go_at_call 46; refine (l1In_any _ _ _ _).mono ?_; rintro e w1 ⟨rfl, rfl⟩)
      go_roundw
      case rel => exact ⟨k + 1, by omega, by go_num, edB_step HOK.out HE.out (Or.inr (upB_yes1 hF)), (hbel.alloc (by omega) _).alloc (by simp; omega) _⟩
      case measure => simp [intOf]; omega
    · have hF1 : L (k - 1) ≤ L k := by omega
      have hF2 : L k ≤ L (k - 1) := by omega
      clear hF
      by_cases hT : H k ≤ H (k - 1)
      · go_wp2_with (go_at_call 46; refine (l1In_any _ _ _ _).mono ?_; rintro e w1 ⟨rfl, rfl⟩)
        go_ret
        exact ⟨ret_bool (by simp [edgesB, h1, edB_down h0 (upB_no2 hF1 hF2 hT) n hlt]), (hbel.alloc (by omega) _).alloc (by simp; omega) _⟩
      · go_wp2_with (go_at_call 46; refine (l1In_any _ _ _ _).mono ?_; rintro e w1 ⟨rfl, rfl⟩)
        go_roundw
        case rel => exact ⟨k + 1, by omega, by go_num, edB_step HOK.out HE.out (Or.inr (upB_yes2 hF1 hF2 (by omega))), (hbel.alloc (by omega) _).alloc (by simp; omega) _⟩
        case measure => simp [intOf]; omega
    · go_wp2_with (go_at_call 46; refine (l1In_any _ _ _ _).mono ?_; rintro e w1 ⟨rfl, rfl⟩)
      go_ret
      exact ⟨ret_bool (by simp [edgesB, h1, edB_down h0 (upB_no1 hF) n hlt]), (hbel.alloc (by omega) _).alloc (by simp; omega) _⟩

end Go.Proofs.Ytjabllghohapgah

/-
  Which of two edges goes first: the program's comparison answers a number below nought just where the first one is below the second. No condition.
-/
set_option linter.unusedVariables false
set_option linter.unusedSimpArgs false
namespace Go.Proofs.Ytjabllghohapgah
open Go.RowKit
attribute [local go_sem ↓] Go.wp_at_zero Go.wp_at_succ

/-- Which one goes first. -/
def cmpI (x y : Int) : Int := if x < y then -1 else if y < x then 1 else 0
def orI (x y : Int) : Int := if x = 0 then y else x
def cmpE (l h l' h' : Int) : Int := orI (cmpI l l') (cmpI h h')
theorem cmpE_up (l h l' h' : Int) : cmpE l h l' h' < 0 ↔ upB l h l' h' = true := by
  unfold cmpE orI cmpI upB
  by_cases h1 : l < l'
  · simp [h1]
  by_cases h2 : l' < l
  · have : l ≠ l' := by omega
    simp [h1, h2, this]
  have : l = l' := by omega
  subst this
  by_cases h3 : h < h'
  · simp [h3]
  by_cases h4 : h' < h <;> simp [h3, h4]
theorem cmpE_in (l h l' h' : Int) : -1 ≤ cmpE l h l' h' ∧ cmpE l h l' h' ≤ 1 := by
  unfold cmpE orI cmpI
  by_cases h1 : l < l' <;> by_cases h2 : l' < l <;> by_cases h3 : h < h' <;> by_cases h4 : h' < h <;> simp [h1, h2, h3, h4]

theorem isNaN_any (x : Int) (w : World) : Calls Try.prog 132 #[.int .i64 x] w fun e w' => e = .returned (.bool false) ∧ w' = w := by
  go_enter Try.func132, Try.ntmps132
  go_wp2
  go_ret
  exact ⟨by simp, rfl⟩

theorem compare_any (x y : Int) (w : World) : Calls Try.prog 125 #[.int .i64 x, .int .i64 y] w fun e w' => e = .returned (.int .i64 (cmpI x y)) ∧ w' = w := by
  unfold cmpI
  by_cases h1 : x < y
  · go_enter Try.func125, Try.ntmps125
    go_wp2_with (go_at_call 132; refine (isNaN_any _ _).mono ?_; rintro e w1 ⟨rfl, rfl⟩)
    go_ret
    exact ⟨by simp [h1], rfl⟩
  by_cases h2 : y < x <;>
  · go_enter Try.func125, Try.ntmps125
    go_wp2_with (go_at_call 132; refine (isNaN_any _ _).mono ?_; rintro e w1 ⟨rfl, rfl⟩)
    go_ret
    exact ⟨by simp [h1, h2], rfl⟩

theorem or_two (b o c : Nat) (x y : Int) (w : World) (h0 : w.cell? ⟨b, o, none⟩ = some (.int .i64 x)) (h1 : w.cell? ⟨b, o + 1, none⟩ = some (.int .i64 y)) :
    Calls Try.prog 124 #[.slice (some ⟨b, o, none⟩) 2 c] w fun e w' => e = .returned (.int .i64 (orI x y)) ∧ w' = w := by
  unfold orI
  go_enter Try.func124, Try.ntmps124
  go_wp2
  go_loop [8] (fun i => ∃ k : Nat, k ≤ 2 ∧ i = .int .i64 k ∧ (1 ≤ k → x = 0) ∧ (2 ≤ k → y = 0)) (fun i => 2 - (intOf i).toNat)
  case atStart => exact ⟨0, by omega, rfl, fun h => by omega, fun h => by omega⟩
  case round =>
    obtain ⟨k, hk, rfl, hx, hy⟩ := hrel
    have h3 : k = 0 ∨ k = 1 ∨ k = 2 := by omega
    rcases h3 with rfl | rfl | rfl
    · clear hx hy
      by_cases e : x = 0
      · go_wp2
        go_round
        case rel => exact ⟨1, by omega, by go_num, fun _ => e, fun h => by omega⟩
        case measure => simp [intOf]
      · go_wp2
        go_ret
        exact ⟨by simp [e], rfl⟩
    · have hx := hx (by omega)
      subst hx
      clear hy
      by_cases e : y = 0
      · go_wp2
        go_round
        case rel => exact ⟨2, by omega, by go_num, by simp, fun h => e⟩
        case measure => simp [intOf]
      · go_wp2
        go_ret
        exact ⟨by simp, rfl⟩
    · have hx := hx (by omega)
      have hy := hy (by omega)
      subst hx hy
      go_wp2
      go_ret
      exact ⟨by simp, rfl⟩

theorem compareEdges_any (l h l' h' : Int) (w : World) :
    Calls Try.prog 112 #[.agg #[.int .i64 l, .int .i64 h], .agg #[.int .i64 l', .int .i64 h']] w fun e w' => e = .returned (.int .i64 (cmpE l h l' h')) ∧ Below w.heap.size w w' := by
  go_enter Try.func112, Try.ntmps112
  go_wp2_with fail
  have hA : Below w.heap.size w ((w.alloc (.cells #[.int .i64 l, .int .i64 h] 71)).alloc (.cells #[.int .i64 l', .int .i64 h'] 71)) := ((Below.refl _ _).alloc (Nat.le_refl _) _).alloc (by simp) _
  go_region_held3 (fun W => W.cell? ⟨w.heap.size, 0, none⟩ = some (.int .i64 l) ∧ W.cell? ⟨w.heap.size, 1, none⟩ = some (.int .i64 h) ∧ W.cell? ⟨w.heap.size + 1, 0, none⟩ = some (.int .i64 l') ∧ W.cell? ⟨w.heap.size + 1, 1, none⟩ = some (.int .i64 h'))
    (first | go_keep)
    (first | (go_at_call 125; refine (compare_any _ _ _).mono ?_; rintro e w1 ⟨rfl, rfl⟩) | (go_at_call 124; refine (or_two _ _ _ _ _ _ (by simp [go_sem]; rfl) (by simp [go_sem]; rfl)).mono ?_; rintro e w1 ⟨rfl, rfl⟩))
  go_wp2
  go_ret
  exact ⟨rfl, (hA.alloc (by simp; omega) _).drew⟩

end Go.Proofs.Ytjabllghohapgah

/-
  The program's look whether edges are as told answers 'edgesB', for every list of at most 2^20 edges.
-/
set_option linter.unusedVariables false
set_option linter.unusedSimpArgs false
namespace Go.Proofs.Ytjabllghohapgah
open Go.RowKit
attribute [local go_sem ↓] Go.wp_at_zero Go.wp_at_succ

set_option maxHeartbeats 1600000 in
theorem edgesOk_any (p : Int) (ao : Option Addr) (n cap : Nat) (L H : Nat → Int) (hn : n ≤ 1048576) (w : World) (hr : ERow w ao n L H) :
    Calls Try.prog 89 #[.slice ao n cap, .int .i64 p] w fun e w' => e = .returned (.bool (edgesB p n L H)) ∧ Below w.heap.size w w' := by
  by_cases h1 : p < 1
  · have h' : inB p 1 24 = false := by simp [inB]; omega
    go_enter Try.func89, Try.ntmps89
    go_wp2
    go_ret
    exact ⟨ret_bool (by simp [edgesB, h']), Below.refl _ _⟩
  by_cases h2 : 24 < p
  · have h' : inB p 1 24 = false := by simp [inB]; omega
    go_enter Try.func89, Try.ntmps89
    go_wp2
    go_ret
    exact ⟨ret_bool (by simp [edgesB, h']), Below.refl _ _⟩
  have hin : Hid (inB p 1 24 = true) := by show inB p 1 24 = true; simp [inB]; omega
  go_enter Try.func89, Try.ntmps89
  go_wp2
  go_loopw [15] (fun i wr => ∃ k : Nat, k ≤ n ∧ i = .int .i64 k ∧ edB p L H k = true ∧ Below w.heap.size w wr) (fun i _ => n - (intOf i).toNat)
  case atStart => exact ⟨0, Nat.zero_le _, rfl, rfl, Below.refl _ _⟩
  case round =>
    obtain ⟨k, hk, rfl, hok, hbel⟩ := hrel
    have HOK : Hid (edB p L H k = true) := hok
    clear hok
    by_cases hlt : k < n
    rotate_left
    · have hkn : k = n := by omega
      subst hkn
      go_wp2
      go_ret
      exact ⟨ret_bool (by simp [edgesB, hin.out, HOK.out]), hbel⟩
    obtain ⟨b, o, hao, c0, c1⟩ := (hr.below hbel (Nat.le_refl _)) k hlt
    subst hao
    have hsz := hbel.size
    rcases Bool.eq_false_or_eq_true (edgeB (L k) (H k) p) with ha | ha
    rotate_left
    · go_wp2_with (go_at_call 111; refine (edgeOk_any _ _ _ _).mono ?_; rintro e w1 ⟨rfl, hb1⟩)
      go_ret
      exact ⟨ret_bool (by simp [edgesB, edB_no ha n hlt]), below_next (hbel.alloc (by omega) _) (Nat.le_refl _) hb1⟩
    by_cases h0 : 0 < k
    rotate_left
    · have hd : decide (0 < (k : Int)) = false := by simp; omega
      go_wp2_with (go_at_call 111; refine (edgeOk_any _ _ _ _).mono ?_; rintro e w1 ⟨rfl, hb1⟩)
      have hA := below_next (hbel.alloc (by omega) _) (Nat.le_refl _) hb1
      go_quiet (fail)
      go_wp2
      go_roundw
      case rel => exact ⟨k + 1, by omega, by go_num, edB_step HOK.out ha (Or.inl (by omega)), below_drewN hA _⟩
      case measure => simp [intOf]; omega
    have hbw : b < wr.heap.size := lt_of_cell c0
    obtain ⟨b', o', hao', d0, d1⟩ := (hr.below hbel (Nat.le_refl _)) (k - 1) (by omega)
    simp only [Option.some.injEq, Addr.mk.injEq, and_true] at hao'
    obtain ⟨rfl, rfl⟩ := hao'
    have hk1 : (0 : Int) ≤ (k : Int) - 1 := by omega
    have hk2 : (k : Int) - 1 < (n : Int) := by omega
    have hk3 : IntKind.i64.wrap ((k : Int) - 1) = (k : Int) - 1 := by rw [IntKind.wrap_i64]; omega
    have hk4 : ((k : Int) - 1).toNat = k - 1 := by omega
    have hk5 : (1 : Int) ≤ (k : Int) := by omega
    have hk6 : (k : Int) ≤ (n : Int) := by omega
    have hk7 : 1 ≤ k := by omega
    have hcu := cmpE_up (L (k - 1)) (H (k - 1)) (L k) (H k)
    rcases Bool.eq_false_or_eq_true (upB (L (k - 1)) (H (k - 1)) (L k) (H k)) with hu | hu
    · have hge : ¬ 0 ≤ cmpE (L (k - 1)) (H (k - 1)) (L k) (H k) := by have := hcu.2 hu; omega
      clear hcu
      go_wp2_with (go_at_call 111; refine (edgeOk_any _ _ _ _).mono ?_; rintro e w1 ⟨rfl, hb1⟩)
      have hbw1 := unbox hb1 (by simp)
      have hA := (hbel.alloc (by omega) _).trans (hb1.mono (by simp; omega))
      have s1 := keep_cell hbw1 (Nat.le_refl _) d0
      have s2 := keep_cell hbw1 (Nat.le_refl _) d1
      have s4 := keep_cell hb1 (Nat.le_refl _) (b := wr.heap.size) (o := 0) (by simp [go_sem]; rfl)
      have s5 := keep_cell hb1 (Nat.le_refl _) (b := wr.heap.size) (o := 1) (by simp [go_sem]; rfl)
      go_region_held3 (fun w' => w'.cell? ⟨b, o + (k - 1) * 2, none⟩ = some (.int .i64 (L (k - 1))) ∧ w'.cell? ⟨b, o + (k - 1) * 2 + 1, none⟩ = some (.int .i64 (H (k - 1))) ∧ w'.cell? ⟨wr.heap.size, 0, none⟩ = some (.int .i64 (L k)) ∧ w'.cell? ⟨wr.heap.size, 1, none⟩ = some (.int .i64 (H k)))
        (first | (go_split_ands; refine ⟨?_, ?_, ?_, ?_⟩ <;> exact keep_cell hb2 (Nat.le_refl _) (by assumption)) | go_keep)
        (first | (go_at_call 112; refine (compareEdges_any _ _ _ _ _).mono ?_; rintro e w2 ⟨rfl, hb2⟩; (first | have hA := below_next hA (by simp) hb2 | have hA := below_next hA.drew (by simp) hb2)))
      go_wp2
      go_roundw
      case rel => exact ⟨k + 1, by omega, by go_num, edB_step HOK.out ha (Or.inr hu), hA⟩
      case measure => simp [intOf]; omega
    · have hge : 0 ≤ cmpE (L (k - 1)) (H (k - 1)) (L k) (H k) := by
        by_cases h : cmpE (L (k - 1)) (H (k - 1)) (L k) (H k) < 0
        · rw [hcu.1 h] at hu; cases hu
        · omega
      clear hcu
      go_wp2_with (go_at_call 111; refine (edgeOk_any _ _ _ _).mono ?_; rintro e w1 ⟨rfl, hb1⟩)
      have hbw1 := unbox hb1 (by simp)
      have hA := (hbel.alloc (by omega) _).trans (hb1.mono (by simp; omega))
      have s1 := keep_cell hbw1 (Nat.le_refl _) d0
      have s2 := keep_cell hbw1 (Nat.le_refl _) d1
      have s4 := keep_cell hb1 (Nat.le_refl _) (b := wr.heap.size) (o := 0) (by simp [go_sem]; rfl)
      have s5 := keep_cell hb1 (Nat.le_refl _) (b := wr.heap.size) (o := 1) (by simp [go_sem]; rfl)
      go_region_held3 (fun w' => w'.cell? ⟨b, o + (k - 1) * 2, none⟩ = some (.int .i64 (L (k - 1))) ∧ w'.cell? ⟨b, o + (k - 1) * 2 + 1, none⟩ = some (.int .i64 (H (k - 1))) ∧ w'.cell? ⟨wr.heap.size, 0, none⟩ = some (.int .i64 (L k)) ∧ w'.cell? ⟨wr.heap.size, 1, none⟩ = some (.int .i64 (H k)))
        (first | (go_split_ands; refine ⟨?_, ?_, ?_, ?_⟩ <;> exact keep_cell hb2 (Nat.le_refl _) (by assumption)) | go_keep)
        (first | (go_at_call 112; refine (compareEdges_any _ _ _ _ _).mono ?_; rintro e w2 ⟨rfl, hb2⟩; (first | have hA := below_next hA (by simp) hb2 | have hA := below_next hA.drew (by simp) hb2)))
      go_wp2
      go_ret
      exact ⟨ret_bool (by simp [edgesB, edB_down h0 hu n hlt]), hA⟩

end Go.Proofs.Ytjabllghohapgah

/-
  Chordal: what it asks.
-/
set_option linter.unusedVariables false
set_option linter.unusedSimpArgs false
namespace Go.Proofs.Ytjabllghohapgah
open Go.RowKit
attribute [local go_sem ↓] Go.wp_at_zero Go.wp_at_succ

/-- The edge is there. -/
def Hs (n : Nat) (L H : Nat → Int) (a b : Int) : Prop := ∃ i, i < n ∧ L i = a ∧ H i = b
/-- For each two edges of the first m with one Low, and those behind: the edge between their Highs is there. -/
def ChdTo (n : Nat) (L H : Nat → Int) (m : Nat) : Prop := ∀ i, i < m → ∀ k, i < k → k < n → (∀ j, i < j → j ≤ k → L j = L i) → Hs n L H (H i) (H k)
def Chd (p : Int) (n : Nat) (L H : Nat → Int) : Prop := edgesB p n L H = true ∧ ChdTo n L H n

end Go.Proofs.Ytjabllghohapgah

/-
  Chordal: the document's. For every list of at most 2^20 edges.
-/
set_option linter.unusedVariables false
set_option linter.unusedSimpArgs false
namespace Go.Proofs.Ytjabllghohapgah
open Go.RowKit
attribute [local go_sem ↓] Go.wp_at_zero Go.wp_at_succ

/-- One edge's turn: those up to k. -/
def ChdAt (n : Nat) (L H : Nat → Int) (i k : Nat) : Prop := (∀ j, i < j → j < k → L j = L i) ∧ ∀ j, i < j → j < k → Hs n L H (H i) (H j)
theorem ChdTo.next {n : Nat} {L H : Nat → Int} {i k : Nat} (h : ChdTo n L H i) (hk : ChdAt n L H i k) (he : k = n ∨ L k ≠ L i) (hik : i < k) : ChdTo n L H (i + 1) := fun x hx y h1 h2 h3 => by
  by_cases e : x = i
  · subst e
    by_cases hy : y < k
    · exact hk.2 y h1 hy
    · rcases he with he | he
      · omega
      · exact absurd (h3 k hik (by omega)) he
  · exact h x (by omega) y h1 h2 h3
theorem ChdAt.start (n : Nat) (L H : Nat → Int) (i : Nat) : ChdAt n L H i (i + 1) := ⟨fun j h1 h2 => by omega, fun j h1 h2 => by omega⟩
theorem ChdAt.next {n : Nat} {L H : Nat → Int} {i k : Nat} (h : ChdAt n L H i k) (e : L k = L i) (hs : Hs n L H (H i) (H k)) : ChdAt n L H i (k + 1) :=
  ⟨fun j h1 h2 => by
    by_cases x : j = k
    · subst x; exact e
    · exact h.1 j h1 (by omega),
   fun j h1 h2 => by
    by_cases x : j = k
    · subst x; exact hs
    · exact h.2 j h1 (by omega)⟩
theorem ChdAt.bad {n : Nat} {L H : Nat → Int} {i k : Nat} (h : ChdAt n L H i k) (e : L k = L i) (hik : i < k) (hk : k < n) (hs : ¬ Hs n L H (H i) (H k)) : ¬ ChdTo n L H n := fun hc =>
  hs (hc i (by omega) k hik hk (fun j h1 h2 => by
    by_cases x : j = k
    · subst x; exact e
    · exact h.1 j h1 (by omega)))
set_option maxHeartbeats 800000 in
theorem l4Find_any (ao : Option Addr) (n cap : Nat) (L H : Nat → Int) (a b : Int) (hn : n ≤ 1048576) (w : World) (hr : ERow w ao n L H) :
    Calls Try.prog 47 #[.slice ao n cap, .int .i64 a, .int .i64 b] w fun e w' => ∃ r : Int, e = .returned (.int .i64 r) ∧ (r < 0 ↔ ¬ Hs n L H a b) ∧ Below w.heap.size w w' := by
  go_enter Try.func47, Try.ntmps47
  go_wp2
  go_loopw [7] (fun i wr => ∃ k : Nat, k ≤ n ∧ i = .int .i64 k ∧ (∀ j, j < k → ¬ (L j = a ∧ H j = b)) ∧ Below w.heap.size w wr) (fun i _ => n - (intOf i).toNat)
  case atStart => exact ⟨0, Nat.zero_le _, rfl, fun j hj => by omega, Below.refl _ _⟩
  case round =>
    obtain ⟨k, hk, rfl, hno, hbel⟩ := hrel
    have HNO : Hid (∀ j, j < k → ¬ (L j = a ∧ H j = b)) := hno
    clear hno
    by_cases hlt : k < n
    rotate_left
    · have hkn : k = n := by omega
      subst hkn
      go_wp2
      go_ret
      exact ⟨_, rfl, ⟨fun _ ⟨i, h1, h2⟩ => HNO.out i h1 h2, fun _ => by omega⟩, hbel⟩
    obtain ⟨bb, o, hao, c0, c1⟩ := (hr.below hbel (Nat.le_refl _)) k hlt
    subst hao
    have hk1 : (0 : Int) ≤ (k : Int) := by omega
    have hk2 : (k : Int) < (n : Int) := by omega
    by_cases h1 : L k = a
    rotate_left
    · have hd : decide (L k = a) = false := by simpa using h1
      go_wp2
      go_roundw
      case rel => exact ⟨k + 1, by omega, by go_num, fun j hj => by
        by_cases e : j = k
        · subst e; exact fun h => h1 h.1
        · exact HNO.out j (by omega), hbel⟩
      case measure => simp [intOf]; omega
    by_cases h2 : H k = b
    · have hs : Hid (Hs n L H a b) := ⟨k, hlt, h1, h2⟩
      go_wp2
      go_ret
      exact ⟨_, rfl, ⟨fun h => by omega, fun h => absurd hs.out h⟩, hbel⟩
    · go_wp2
      go_roundw
      case rel => exact ⟨k + 1, by omega, by go_num, fun j hj => by
        by_cases e : j = k
        · subst e; exact fun h => h2 h.2
        · exact HNO.out j (by omega), hbel⟩
      case measure => simp [intOf]; omega

end Go.Proofs.Ytjabllghohapgah

/-
  The small functions of the exact laws of chapter 1: what each call answers, and that nothing that was there has turned. No condition but those that each theorem names.
-/
set_option linter.unusedVariables false
set_option linter.unusedSimpArgs false
namespace Go.Proofs.Ytjabllghohapgah
open Go.RowKit


/-- Cell j of n arcs that lie one behind the other. -/
def ar (F T G : Nat → Int) (j : Nat) : Int := if j % 3 = 0 then F (j / 3) else if j % 3 = 1 then T (j / 3) else G (j / 3)
theorem ar0 (F T G : Nat → Int) (k : Nat) : ar F T G (k * 3) = F k := by
  unfold ar; rw [if_pos (by omega)]; congr 1; omega
theorem ar1 (F T G : Nat → Int) (k : Nat) : ar F T G (k * 3 + 1) = T k := by
  unfold ar; rw [if_neg (by omega), if_pos (by omega)]; congr 1; omega
theorem ar2 (F T G : Nat → Int) (k : Nat) : ar F T G (k * 3 + 2) = G k := by
  unfold ar; rw [if_neg (by omega), if_neg (by omega)]; congr 1; omega

/-- n arcs lie behind a slice's address. -/
def Row (w : World) (ao : Option Addr) (n : Nat) (F T G : Nat → Int) : Prop := ∀ k, k < n → ∃ b o, ao = some ⟨b, o, none⟩ ∧
  w.cell? ⟨b, o + k * 3, none⟩ = some (.int .i64 (F k)) ∧ w.cell? ⟨b, o + k * 3 + 1, none⟩ = some (.int .i64 (T k)) ∧ w.cell? ⟨b, o + k * 3 + 2, none⟩ = some (.int .i64 (G k))

theorem Row.below {w w' : World} {B : Nat} {ao : Option Addr} {n : Nat} {F T G : Nat → Int} (h : Row w ao n F T G) (hb : Below B w w') (hB : w.heap.size ≤ B) : Row w' ao n F T G := fun k hk => by
  obtain ⟨b, o, e, c0, c1, c2⟩ := h k hk
  have hlt := lt_of_cell c0
  exact ⟨b, o, e, by rw [hb.cell (by simp; omega)]; exact c0, by rw [hb.cell (by simp; omega)]; exact c1, by rw [hb.cell (by simp; omega)]; exact c2⟩

theorem Row.alloc {w : World} {ao : Option Addr} {n : Nat} {F T G : Nat → Int} (h : Row w ao n F T G) (o : Obj) : Row (w.alloc o) ao n F T G := h.below ((Below.refl w.heap.size w).alloc (Nat.le_refl _) o) (Nat.le_refl _)

/-- n arcs of the call's own, in a block of their own. -/
def Own (w : World) (b n : Nat) (f : Nat → Int) : Prop := w.rowIs b 89 (n * 3) (fun j => .int .i64 (f j))

theorem Own.row {w : World} {b n : Nat} {F T G : Nat → Int} (h : Own w b n (ar F T G)) : Row w (some ⟨b, 0, none⟩) n F T G := fun k hk => by
  refine ⟨b, 0, rfl, ?_, ?_, ?_⟩
  · have := World.rowIs.cell h (i := k * 3) (by omega); rw [ar0] at this; simpa using this
  · have := World.rowIs.cell h (i := k * 3 + 1) (by omega); rw [ar1] at this; simpa using this
  · have := World.rowIs.cell h (i := k * 3 + 2) (by omega); rw [ar2] at this; simpa using this

theorem Own.below {w w' : World} {b n : Nat} {f : Nat → Int} (h : Own w b n f) (hb : Below w.heap.size w w') : Own w' b n f := World.rowIs.of_block h (hb.block b (World.rowIs.lt h))

theorem Own.three {w : World} {b n k : Nat} {F T G : Nat → Int} (h : Own w b n (upto (ar F T G) (k * 3))) (hk : k < n) :
    Own (((w.setCell ⟨b, k * 3, none⟩ (.int .i64 (F k))).setCell ⟨b, k * 3 + 1, none⟩ (.int .i64 (T k))).setCell ⟨b, k * 3 + 2, none⟩ (.int .i64 (G k))) b n (upto (ar F T G) ((k + 1) * 3)) := by
  refine (((World.rowIs.set h (k * 3) _).set (k * 3 + 1) _).set (k * 3 + 2) _).congr fun j hj => ?_
  by_cases e2 : j = k * 3 + 2
  · subst e2; simp only [if_pos]; unfold upto; rw [if_pos (by omega), ar2]
  by_cases e1 : j = k * 3 + 1
  · subst e1; rw [if_neg (by omega), if_pos rfl]; unfold upto; rw [if_pos (by omega), ar1]
  by_cases e0 : j = k * 3
  · subst e0; rw [if_neg (by omega), if_neg (by omega), if_pos rfl]; unfold upto; rw [if_pos (by omega), ar0]
  rw [if_neg e2, if_neg e1, if_neg e0]; unfold upto
  by_cases hl : j < k * 3
  · rw [if_pos hl, if_pos (by omega)]
  · rw [if_neg hl, if_neg (by omega)]

theorem Try.infoArc : (Try.prog.info? 89).map (fun i => (i.zero, i.size, i.bytes)) = some (some (.agg #[.int .i64 0, .int .i64 0, .int .i64 0]), 3, 24) := by kernel_rfl

theorem made_own (w : World) (n : Nat) (f : Nat → Int) : Own (w.alloc (.cells (madeCells #[.int .i64 0, .int .i64 0, .int .i64 0] (n * 3)) 89)) w.heap.size n (upto f 0) := by
  refine ⟨_, Go.Deep.blk_alloc_new _ _, size_madeCells _ _, fun i hi => ?_⟩
  have h3 : i % 3 = 0 ∨ i % 3 = 1 ∨ i % 3 = 2 := by omega
  simp [madeCells, hi, upto]
  rcases h3 with h | h | h <;> simp [h]

theorem make_arcs (n : Nat) (hn : n ≤ 1048576) (w : World) :
    (Instr.makeSlice 45 (.int .i64 (n : Int)) (.int .i64 (n : Int))).run Try.prog w = .ok (.slice (some ⟨w.heap.size, 0, none⟩) n n) (w.alloc (.cells (madeCells #[.int .i64 0, .int .i64 0, .int .i64 0] (n * 3)) 89)) := by
  obtain ⟨i, hi, hz0, hz1, hz2⟩ := info_parts Try.infoArc
  have hr := run_make (P := Try.prog) w 45 89 i _ Try.underlying45 hi hz0 .i64 .i64 n n (by omega) (Int.le_refl _) (by rw [hz2]; omega) (by omega)
  simpa [hz1, Value.cells] using hr

end Go.Proofs.Ytjabllghohapgah

/-
  GraphOk: the document's and the program's, each held against one plain function of the arcs.
-/
set_option linter.unusedVariables false
set_option linter.unusedSimpArgs false
namespace Go.Proofs.Ytjabllghohapgah
open Go.RowKit

def arcB (f t g p : Int) : Bool := inB f 0 (p - 1) && (inB t 0 (p - 1) && (f != t && inB g 1 1000000))
def arcsB (p : Int) (F T G : Nat → Int) : Nat → Bool
  | 0 => true
  | k + 1 => arcsB p F T G k && (arcB (F k) (T k) (G k) p && (k == 0 || upB (F (k - 1)) (T (k - 1)) (F k) (T k)))
def graphB (p : Int) (n : Nat) (F T G : Nat → Int) : Bool := inB p 1 24 && (decide (n ≤ 100) && arcsB p F T G n)
set_option maxHeartbeats 800000 in
theorem l1Arc_any (f t g p : Int) (hp : 1 ≤ p) (hp' : p ≤ 24) (w : World) :
    Calls Try.prog 113 #[.agg #[.int .i64 f, .int .i64 t, .int .i64 g], .int .i64 p] w fun e w' => e = .returned (.bool (arcB f t g p)) ∧ Below w.heap.size w w' := by
  unfold arcB
  rcases Bool.eq_false_or_eq_true (inB f 0 (p - 1)) with h1 | h1
  · rcases Bool.eq_false_or_eq_true (inB t 0 (p - 1)) with h2 | h2
    · rcases Bool.eq_false_or_eq_true (f != t) with h3 | h3 <;>
      · go_enter Try.func113, Try.ntmps113
        go_wp2_with (go_at_call 46; refine (l1In_any _ _ _ _).mono ?_; rintro e w1 ⟨rfl, rfl⟩)
        go_ret
        exact ⟨by simp [h1, h2, h3], (Below.refl _ _).alloc (Nat.le_refl _) _⟩
    · go_enter Try.func113, Try.ntmps113
      go_wp2_with (go_at_call 46; refine (l1In_any _ _ _ _).mono ?_; rintro e w1 ⟨rfl, rfl⟩)
      go_ret
      exact ⟨by simp [h1, h2], (Below.refl _ _).alloc (Nat.le_refl _) _⟩
  · go_enter Try.func113, Try.ntmps113
    go_wp2_with (go_at_call 46; refine (l1In_any _ _ _ _).mono ?_; rintro e w1 ⟨rfl, rfl⟩)
    go_ret
    exact ⟨by simp [h1], (Below.refl _ _).alloc (Nat.le_refl _) _⟩

end Go.Proofs.Ytjabllghohapgah

/-
  The document's GraphOk answers 'graphB' of the map's places and arcs, for every map.
-/
set_option linter.unusedVariables false
set_option linter.unusedSimpArgs false
namespace Go.Proofs.Ytjabllghohapgah
open Go.RowKit

theorem arcsB_no {p : Int} {F T G : Nat → Int} {k : Nat} (h : arcB (F k) (T k) (G k) p = false) : ∀ n, k < n → arcsB p F T G n = false
  | 0, hk => by omega
  | n + 1, hk => by
    by_cases e : k = n
    · subst e; simp [arcsB, h]
    · simp [arcsB, arcsB_no h n (by omega)]
theorem arcsB_down {p : Int} {F T G : Nat → Int} {k : Nat} (h0 : 0 < k) (h : upB (F (k - 1)) (T (k - 1)) (F k) (T k) = false) : ∀ n, k < n → arcsB p F T G n = false
  | 0, hk => by omega
  | n + 1, hk => by
    by_cases e : k = n
    · subst e
      have : (k == 0) = false := by simp; omega
      simp [arcsB, h, this]
    · simp [arcsB, arcsB_down h0 h n (by omega)]
theorem arcsB_step {p : Int} {F T G : Nat → Int} {k : Nat} (h : arcsB p F T G k = true) (ha : arcB (F k) (T k) (G k) p = true) (hu : k = 0 ∨ upB (F (k - 1)) (T (k - 1)) (F k) (T k) = true) : arcsB p F T G (k + 1) = true := by
  rcases hu with hu | hu
  · subst hu; simp [arcsB, ha]
  · simp [arcsB, h, ha, hu]
set_option maxHeartbeats 1600000 in
theorem specGraphOk_any (p : Int) (ao : Option Addr) (n cap : Nat) (F T G : Nat → Int) (hn : n ≤ 1048576) (w : World) (hr : Row w ao n F T G) :
    Calls Try.prog 94 #[.agg #[.int .i64 p, .slice ao n cap]] w fun e w' => e = .returned (.bool (graphB p n F T G)) ∧ Below w.heap.size w w' := by
  by_cases h1 : inB p 1 24 = true
  rotate_left
  · have h1 : inB p 1 24 = false := by simpa using h1
    go_enter Try.func94, Try.ntmps94
    go_wp2_with (go_at_call 46; refine (l1In_any _ _ _ _).mono ?_; rintro e w1 ⟨rfl, rfl⟩)
    go_ret
    exact ⟨by simp [graphB, h1], (Below.refl _ _).alloc (Nat.le_refl _) _⟩
  by_cases h2 : n ≤ 100
  rotate_left
  · go_enter Try.func94, Try.ntmps94
    go_wp2_with (go_at_call 46; refine (l1In_any _ _ _ _).mono ?_; rintro e w1 ⟨rfl, rfl⟩)
    go_ret
    exact ⟨by simp [graphB, h1, h2], (Below.refl _ _).alloc (Nat.le_refl _) _⟩
  have hp : 1 ≤ p ∧ p ≤ 24 := by simpa [inB] using h1
  obtain ⟨hp1, hp2⟩ := hp
  go_enter Try.func94, Try.ntmps94
  go_wp2_with (go_at_call 46; refine (l1In_any _ _ _ _).mono ?_; rintro e w1 ⟨rfl, rfl⟩)
  go_loopw [3] (fun i wr => ∃ k : Nat, k ≤ n ∧ i = .int .i64 k ∧ arcsB p F T G k = true ∧ Below (w.heap.size + 1) (w.alloc (.cells #[.int .i64 p, .slice ao n cap] 47)) wr) (fun i _ => n - (intOf i).toNat)
  case atStart => exact ⟨0, Nat.zero_le _, rfl, rfl, Below.refl _ _⟩
  case round =>
    obtain ⟨k, hk, rfl, hok, hbel⟩ := hrel
    have g0 : wr.cell? ⟨w.heap.size, 0, none⟩ = some (.int .i64 p) := by rw [hbel.cell (by simp)]; simp [go_sem]
    have g1 : wr.cell? ⟨w.heap.size, 1, none⟩ = some (.slice ao n cap) := by rw [hbel.cell (by simp)]; simp [go_sem]
    have hsz : w.heap.size < wr.heap.size := by have := hbel.size; simp at this; omega
    have HOK : Hid (arcsB p F T G k = true) := hok
    clear hok
    by_cases hlt : k < n
    rotate_left
    · have hkn : k = n := by omega
      subst hkn
      go_wp2
      go_ret
      exact ⟨ret_bool (by simp [graphB, h1, h2, HOK.out]), unbox hbel (by omega)⟩
    obtain ⟨b, o, hao, c0, c1, c2⟩ := ((hr.alloc _).below hbel (by simp)) k hlt
    subst hao
    rcases Bool.eq_false_or_eq_true (arcB (F k) (T k) (G k) p) with ha | ha
    rotate_left
    · go_wp2_with (go_at_call 113; refine (l1Arc_any _ _ _ _ hp1 hp2 _).mono ?_; rintro e w1 ⟨rfl, hb1⟩)
      go_ret
      exact ⟨ret_bool (by simp [graphB, h1, arcsB_no ha n hlt]), unbox ((hbel.alloc (by omega) _).trans (hb1.mono (by simp; omega))) (by omega)⟩
    by_cases h0 : 0 < k
    rotate_left
    · go_wp2_with (go_at_call 113; refine (l1Arc_any _ _ _ _ hp1 hp2 _).mono ?_; rintro e w1 ⟨rfl, hb1⟩)
      go_roundw
      case rel => exact ⟨k + 1, by omega, by go_num, arcsB_step HOK.out ha (Or.inl (by omega)), (hbel.alloc (by omega) _).trans (hb1.mono (by simp; omega))⟩
      case measure => simp [intOf]; omega
    have hbw : b < wr.heap.size := lt_of_cell c0
    obtain ⟨b', o', hao', d0, d1, d2⟩ := ((hr.alloc _).below hbel (by simp)) (k - 1) (by omega)
    simp only [Option.some.injEq, Addr.mk.injEq, and_true] at hao'
    obtain ⟨rfl, rfl⟩ := hao'
    rcases Int.lt_trichotomy (F (k - 1)) (F k) with hF | hF | hF
    · go_wp2_with (go_at_call 113; refine (l1Arc_any _ _ _ _ hp1 hp2 _).mono ?_; rintro e w1 ⟨rfl, hb1⟩; obtain ⟨hc, hf⟩ := bcell hb1; obtain ⟨hz, hz1, hz2⟩ := three_lt hb1 hsz hbw)
      go_roundw
      case rel => exact ⟨k + 1, by omega, by go_num, arcsB_step HOK.out ha (Or.inr (upB_yes1 hF)), ((hbel.alloc (by omega) _).trans (hb1.mono (by simp; omega))).alloc (by omega) _⟩
      case measure => simp [intOf]; omega
    · have hF1 : F (k - 1) ≤ F k := by omega
      have hF2 : F k ≤ F (k - 1) := by omega
      clear hF
      by_cases hT : T k ≤ T (k - 1)
      · go_wp2_with (go_at_call 113; refine (l1Arc_any _ _ _ _ hp1 hp2 _).mono ?_; rintro e w1 ⟨rfl, hb1⟩; obtain ⟨hc, hf⟩ := bcell hb1; obtain ⟨hz, hz1, hz2⟩ := three_lt hb1 hsz hbw)
        go_ret
        exact ⟨ret_bool (by simp [graphB, h1, arcsB_down h0 (upB_no2 hF1 hF2 hT) n hlt]), unbox (((hbel.alloc (by omega) _).trans (hb1.mono (by simp; omega))).alloc (by omega) _) (by omega)⟩
      · go_wp2_with (go_at_call 113; refine (l1Arc_any _ _ _ _ hp1 hp2 _).mono ?_; rintro e w1 ⟨rfl, hb1⟩; obtain ⟨hc, hf⟩ := bcell hb1; obtain ⟨hz, hz1, hz2⟩ := three_lt hb1 hsz hbw)
        go_roundw
        case rel => exact ⟨k + 1, by omega, by go_num, arcsB_step HOK.out ha (Or.inr (upB_yes2 hF1 hF2 (by omega))), ((hbel.alloc (by omega) _).trans (hb1.mono (by simp; omega))).alloc (by omega) _⟩
        case measure => simp [intOf]; omega
    · go_wp2_with (go_at_call 113; refine (l1Arc_any _ _ _ _ hp1 hp2 _).mono ?_; rintro e w1 ⟨rfl, hb1⟩; obtain ⟨hc, hf⟩ := bcell hb1; obtain ⟨hz, hz1, hz2⟩ := three_lt hb1 hsz hbw)
      go_ret
      exact ⟨ret_bool (by simp [graphB, h1, arcsB_down h0 (upB_no1 hF) n hlt]), unbox (((hbel.alloc (by omega) _).trans (hb1.mono (by simp; omega))).alloc (by omega) _) (by omega)⟩

end Go.Proofs.Ytjabllghohapgah

/-
  What a map that is as told says of its arcs: the plain part.
-/
set_option linter.unusedVariables false
set_option linter.unusedSimpArgs false
namespace Go.Proofs.Ytjabllghohapgah
open Go.RowKit Go.Maps

theorem graphB_arcs {p : Int} {n : Nat} {F T G : Nat → Int} (h : graphB p n F T G = true) : n ≤ 100 ∧ arcsB p F T G n = true := by
  simp [graphB] at h; exact ⟨h.2.1, h.2.2⟩
theorem arcsB_each {p : Int} {F T G : Nat → Int} : ∀ n, arcsB p F T G n = true → ∀ k, k < n → arcB (F k) (T k) (G k) p = true ∧ (0 < k → upB (F (k - 1)) (T (k - 1)) (F k) (T k) = true)
  | 0, _, k, hk => by omega
  | n + 1, h, k, hk => by
    simp [arcsB] at h
    by_cases e : k = n
    · subst e; exact ⟨h.2.1, fun h0 => by rcases h.2.2 with h' | h'; omega; exact h'⟩
    · exact arcsB_each n h.1 k (by omega)
theorem upB_iff {f t f' t' : Int} : upB f t f' t' = true ↔ f < f' ∨ (f = f' ∧ t < t') := by simp [upB]
theorem rising {p : Int} {F T G : Nat → Int} {n : Nat} (h : arcsB p F T G n = true) (i : Nat) : ∀ j, i < j → j < n → F i < F j ∨ (F i = F j ∧ T i < T j)
  | 0, hi, _ => by omega
  | j + 1, hi, hj => by
    have hu := upB_iff.1 ((arcsB_each n h (j + 1) hj).2 (by omega))
    simp at hu
    by_cases e : i = j
    · subst e; exact hu
    · have := rising h i j (by omega) (by omega); omega
theorem unique {p : Int} {F T G : Nat → Int} {n : Nat} (h : arcsB p F T G n = true) {i j : Nat} (hi : i < n) (hj : j < n) (hF : F i = F j) (hT : T i = T j) : i = j := by
  rcases Nat.lt_trichotomy i j with hlt | e | hlt
  · have := rising h i j hlt hj; omega
  · exact e
  · have := rising h j i hlt hi; omega
theorem graphB_p {p : Int} {n : Nat} {F T G : Nat → Int} (h : graphB p n F T G = true) : inB p 1 24 = true := by
  simp [graphB] at h; exact h.1
theorem ret_i64 {a b : Int} (h : a = b) : Ending.returned (.int .i64 a) = .returned (.int .i64 b) := by rw [h]

end Go.Proofs.Ytjabllghohapgah
