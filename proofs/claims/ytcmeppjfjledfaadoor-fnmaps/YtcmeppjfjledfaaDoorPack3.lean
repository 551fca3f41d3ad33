/-
  Helpers, merged: ArcR, OkA, OkI, OkSpec, OkImpl, Box22, RdG, RdH, OkP, RdK, GrQ.
-/
import Derived.Test.YtcmeppjfjledfaaDoorPack2
import Derived.Test.YtcmeppjfjledfaaDoorPack1
import Derived.Deep.QuietTactic
import Derived.BigQuiet
import Derived.Deep.DrawnRows
/-
  The region that appends an arc out of three numbers to a map's arcs, of a frame that is a letter. Written by tools/mkarcr.py.
-/
set_option linter.unusedVariables false
set_option linter.unusedSimpArgs false
namespace Go.Proofs.YtcmeppjfjledfaaDoor
open Go.RowKit

set_option maxRecDepth 100000

theorem act_ext' {a b : Act} (hd : a.defers = b.defers) (hs : a.tmps.size = b.tmps.size) (h : ∀ j, j < a.tmps.size → a.eval (.tmp j) = b.eval (.tmp j)) : a = b := by
  obtain ⟨x, d⟩ := a
  obtain ⟨y, e⟩ := b
  simp only at hd hs h
  subst hd
  congr 1
  refine Array.ext hs fun i h1 h2 => ?_
  have := h i h1
  simpa [Act.eval, Array.getD, h1, h2] using this
theorem putS {a : Act} {i : Nat} {v : Value} (h : i < a.tmps.size) : (a.put (some i) v).eval (.tmp i) = v := by simp [Act.put, Act.eval, Array.getD, h]
theorem putN {a : Act} {i j : Nat} {v : Value} (h : j ≠ i) : (a.put (some i) v).eval (.tmp j) = a.eval (.tmp j) := by
  by_cases hj : j < a.tmps.size
  · simp [Act.put, Act.eval, Array.getD, hj, Array.getElem_setIfInBounds, Ne.symm h]
  · simp [Act.put, Act.eval, Array.getD, hj]
theorem putZ {a : Act} {i : Nat} {v : Value} : (a.put (some i) v).tmps.size = a.tmps.size := by simp [Act.put]
theorem putD {a : Act} {i : Option Tmp} {v : Value} : (a.put i v).defers = a.defers := by cases i <;> rfl
theorem putO {x A : Act} {i j : Nat} {v : Value} (hi : i < A.tmps.size) (h1 : j = i → x.eval (.tmp j) = v) (h2 : j ≠ i → x.eval (.tmp j) = A.eval (.tmp j)) : x.eval (.tmp j) = (A.put (some i) v).eval (.tmp j) := by
  by_cases c : j = i
  · rw [h1 c, c]
    exact (putS hi).symm
  · exact (h2 c).trans (putN c).symm
section
variable {ev : Operand → Value} {d : Option Tmp} {t : TypeId} {pos : String} {aft : Array Edge} {w : World}
theorem ru_field {x : Operand} {b : Nat} (he : ev x = .pointer (some ⟨b, 0, none⟩)) : (execOp ev { dst := d, op := .fieldAddr 26 x 1, type := t, pos := pos, after := aft, guard := none }).run Tryd.prog w = .ok (.value (.pointer (some ⟨b, 1, none⟩))) w := by
  simp [go_sem, he]
theorem ru_loadA {x : Operand} {b : Nat} {v : Value} (he : ev x = .pointer (some ⟨b, 1, none⟩)) (c : w.cell? ⟨b, 1, none⟩ = some v) : (execOp ev { dst := d, op := .load 24 x, type := t, pos := pos, after := aft, guard := none }).run Tryd.prog w = .ok (.value v) w := by
  simp [go_sem, he, c]
theorem ru_loadI {x : Operand} {b j : Nat} {v : Value} (he : ev x = .pointer (some ⟨b, j, none⟩)) (c : w.cell? ⟨b, j, none⟩ = some v) : (execOp ev { dst := d, op := .load 2 x, type := t, pos := pos, after := aft, guard := none }).run Tryd.prog w = .ok (.value v) w := by
  simp [go_sem, he, c]
theorem ru_move {x : Operand} {v : Value} (he : ev x = v) : (execOp ev { dst := d, op := .move x, type := t, pos := pos, after := aft, guard := none }).run Tryd.prog w = .ok (.value v) w := by
  simp [go_sem, he]
theorem ru_index {x y : Operand} {b n c m : Nat} {i : Int} (he : ev x = .slice (some ⟨b, 0, none⟩) n c) (hi : ev y = .int .i64 i) (hm : i = (m : Int)) (hn : m < n) : (execOp ev { dst := d, op := .indexAddr 45 x y, type := t, pos := pos, after := aft, guard := none }).run Tryd.prog w = .ok (.value (.pointer (some ⟨b, m, none⟩))) w := by
  subst hm
  have h0 : (0 : Int) ≤ (m : Int) := by omega
  have h1 : (m : Int) < (n : Int) := by omega
  simp [go_sem, he, hi, h0, h1, hn]
theorem ru_add {x : Operand} {i k : Int} (hc : ev (.const (.int .i64 k)) = .int .i64 k) (he : ev x = .int .i64 i) (h0 : 0 ≤ i) (h1 : i ≤ 1000000000) (h2 : 0 ≤ k) (h3 : k ≤ 2) : (execOp ev { dst := d, op := .binOp .add 3 x (.const (.int .i64 k)) 3, type := t, pos := pos, after := aft, guard := none }).run Tryd.prog w = .ok (.value (.int .i64 (i + k))) w := by
  have hw : IntKind.i64.wrap (i + k) = i + k := by rw [IntKind.wrap_i64]; omega
  simp [go_sem, he, hw, hc]
theorem ru_build {x y z : Operand} {v0 v1 v2 : Int} (h0 : ev x = .int .i64 v0) (h1 : ev y = .int .i64 v1) (h2 : ev z = .int .i64 v2) : (execOp ev { dst := d, op := .build 37 #[(0, x), (1, y), (2, z)], type := t, pos := pos, after := aft, guard := none }).run Tryd.prog w = .ok (.value (.agg #[.int .i64 v0, .int .i64 v1, .int .i64 v2])) w := by
  simp [go_sem, h0, h1, h2]
theorem ru_slice {x : Operand} {v0 v1 v2 : Int} (h0 : ev x = .agg #[.int .i64 v0, .int .i64 v1, .int .i64 v2]) : (execOp ev { dst := d, op := .buildSlice 24 1 #[(0, x)], type := t, pos := pos, after := aft, guard := none }).run Tryd.prog w = .ok (.value (.slice (some ⟨w.heap.size, 0, none⟩) 1 1)) (w.alloc (.cells #[.int .i64 v0, .int .i64 v1, .int .i64 v2] 37)) := by
  simp [go_sem, h0]
theorem ru_store {x y : Operand} {b : Nat} {u : Value} {go : Option Addr} {n c : Nat} (hx : ev x = .pointer (some ⟨b, 1, none⟩)) (hy : ev y = .slice go n c) (c0 : w.cell? ⟨b, 1, none⟩ = some u) (hz : w.frozen? ⟨b, 1, none⟩ = false) : (execOp ev { dst := d, op := .store 24 x y, type := t, pos := pos, after := aft, guard := none }).run Tryd.prog w = .ok .skip (w.setCell ⟨b, 1, none⟩ (.slice go n c)) := by
  simp [go_sem, hx, hy, c0, hz]
end
def aops (bx nb ix q : Nat) (pos : String) : Array Oper := #[
  { dst := some q, op := Op.fieldAddr 26 (Operand.tmp bx) 1, type := 0, pos := pos, after := #[], guard := none },
  { dst := some (q + 1), op := Op.load 24 (Operand.tmp q), type := 24, pos := pos, after := #[{ on := 0, ground := Ground.data }], guard := none },
  { dst := some (q + 2), op := Op.move (Operand.tmp nb), type := 45, pos := pos, after := #[], guard := none },
  { dst := some (q + 3), op := Op.move (Operand.tmp ix), type := 3, pos := pos, after := #[], guard := none },
  { dst := some (q + 4), op := Op.indexAddr 45 (Operand.tmp (q + 2)) (Operand.tmp (q + 3)), type := 0, pos := pos, after := #[{ on := 2, ground := Ground.data }, { on := 3, ground := Ground.data }], guard := none },
  { dst := some (q + 5), op := Op.load 2 (Operand.tmp (q + 4)), type := 2, pos := pos, after := #[{ on := 4, ground := Ground.data }], guard := none },
  { dst := some (q + 6), op := Op.move (Operand.tmp nb), type := 45, pos := pos, after := #[], guard := none },
  { dst := some (q + 7), op := Op.move (Operand.tmp ix), type := 3, pos := pos, after := #[], guard := none },
  { dst := some (q + 8), op := Op.binOp BinOp.add 3 (Operand.tmp (q + 7)) (Operand.const (Value.int IntKind.i64 1)) 3, type := 3, pos := pos, after := #[{ on := 7, ground := Ground.data }], guard := none },
  { dst := some (q + 9), op := Op.indexAddr 45 (Operand.tmp (q + 6)) (Operand.tmp (q + 8)), type := 0, pos := pos, after := #[{ on := 6, ground := Ground.data }, { on := 8, ground := Ground.data }], guard := none },
  { dst := some (q + 10), op := Op.load 2 (Operand.tmp (q + 9)), type := 2, pos := pos, after := #[{ on := 9, ground := Ground.data }], guard := none },
  { dst := some (q + 11), op := Op.move (Operand.tmp nb), type := 45, pos := pos, after := #[], guard := none },
  { dst := some (q + 12), op := Op.move (Operand.tmp ix), type := 3, pos := pos, after := #[], guard := none },
  { dst := some (q + 13), op := Op.binOp BinOp.add 3 (Operand.tmp (q + 12)) (Operand.const (Value.int IntKind.i64 2)) 3, type := 3, pos := pos, after := #[{ on := 12, ground := Ground.data }], guard := none },
  { dst := some (q + 14), op := Op.indexAddr 45 (Operand.tmp (q + 11)) (Operand.tmp (q + 13)), type := 0, pos := pos, after := #[{ on := 11, ground := Ground.data }, { on := 13, ground := Ground.data }], guard := none },
  { dst := some (q + 15), op := Op.load 2 (Operand.tmp (q + 14)), type := 2, pos := pos, after := #[{ on := 14, ground := Ground.data }], guard := none },
  { dst := some (q + 16), op := Op.build 37 #[(0, Operand.tmp (q + 5)), (1, Operand.tmp (q + 10)), (2, Operand.tmp (q + 15))], type := 37, pos := pos, after := #[{ on := 5, ground := Ground.data }, { on := 10, ground := Ground.data }, { on := 15, ground := Ground.data }], guard := none },
  { dst := some (q + 17), op := Op.buildSlice 24 1 #[(0, Operand.tmp (q + 16))], type := 24, pos := pos, after := #[{ on := 16, ground := Ground.data }], guard := none },
  { dst := some (q + 18), op := Op.call { callee := Callee.builtin Builtin.append, args := #[Operand.tmp (q + 1), Operand.tmp (q + 17)], argTypes := #[24, 24] }, type := 24, pos := pos, after := #[{ on := 1, ground := Ground.data }, { on := 17, ground := Ground.data }], guard := none },
  { dst := some (q + 19), op := Op.fieldAddr 26 (Operand.tmp bx) 1, type := 0, pos := pos, after := #[{ on := 0, ground := Ground.phase }, { on := 1, ground := Ground.phase }, { on := 2, ground := Ground.phase }, { on := 3, ground := Ground.phase }, { on := 4, ground := Ground.phase }, { on := 5, ground := Ground.phase }, { on := 6, ground := Ground.phase }, { on := 7, ground := Ground.phase }, { on := 8, ground := Ground.phase }, { on := 9, ground := Ground.phase }, { on := 10, ground := Ground.phase }, { on := 11, ground := Ground.phase }, { on := 12, ground := Ground.phase }, { on := 13, ground := Ground.phase }, { on := 14, ground := Ground.phase }, { on := 15, ground := Ground.phase }, { on := 16, ground := Ground.phase }, { on := 17, ground := Ground.phase }, { on := 18, ground := Ground.phase }], guard := none },
  { dst := none, op := Op.store 24 (Operand.tmp (q + 19)) (Operand.tmp (q + 18)), type := 0, pos := pos, after := #[{ on := 19, ground := Ground.data }, { on := 18, ground := Ground.data }, { on := 18, ground := Ground.chain }, { on := 0, ground := Ground.phase }, { on := 1, ground := Ground.phase }, { on := 2, ground := Ground.phase }, { on := 3, ground := Ground.phase }, { on := 4, ground := Ground.phase }, { on := 5, ground := Ground.phase }, { on := 6, ground := Ground.phase }, { on := 7, ground := Ground.phase }, { on := 8, ground := Ground.phase }, { on := 9, ground := Ground.phase }, { on := 10, ground := Ground.phase }, { on := 11, ground := Ground.phase }, { on := 12, ground := Ground.phase }, { on := 13, ground := Ground.phase }, { on := 14, ground := Ground.phase }, { on := 15, ground := Ground.phase }, { on := 16, ground := Ground.phase }, { on := 17, ground := Ground.phase }, { on := 18, ground := Ground.phase }], guard := none }]
def freesA : List (Array Bool × Nat) := [(#[false, false, false, false, false, false, false, false, false, false, false, false, false, false, false, false, false, false, false, false, false], 0), (#[true, false, false, false, false, false, false, false, false, false, false, false, false, false, false, false, false, false, false, false, false], 2), (#[true, false, true, false, false, false, false, false, false, false, false, false, false, false, false, false, false, false, false, false, false], 3), (#[true, false, true, true, false, false, false, false, false, false, false, false, false, false, false, false, false, false, false, false, false], 4), (#[true, false, true, true, true, false, false, false, false, false, false, false, false, false, false, false, false, false, false, false, false], 5), (#[true, false, true, true, true, true, false, false, false, false, false, false, false, false, false, false, false, false, false, false, false], 6), (#[true, false, true, true, true, true, true, false, false, false, false, false, false, false, false, false, false, false, false, false, false], 7), (#[true, false, true, true, true, true, true, true, false, false, false, false, false, false, false, false, false, false, false, false, false], 8), (#[true, false, true, true, true, true, true, true, true, false, false, false, false, false, false, false, false, false, false, false, false], 9), (#[true, false, true, true, true, true, true, true, true, true, false, false, false, false, false, false, false, false, false, false, false], 10), (#[true, false, true, true, true, true, true, true, true, true, true, false, false, false, false, false, false, false, false, false, false], 11), (#[true, false, true, true, true, true, true, true, true, true, true, true, false, false, false, false, false, false, false, false, false], 12), (#[true, false, true, true, true, true, true, true, true, true, true, true, true, false, false, false, false, false, false, false, false], 13), (#[true, false, true, true, true, true, true, true, true, true, true, true, true, true, false, false, false, false, false, false, false], 14), (#[true, false, true, true, true, true, true, true, true, true, true, true, true, true, true, false, false, false, false, false, false], 15), (#[true, false, true, true, true, true, true, true, true, true, true, true, true, true, true, true, false, false, false, false, false], 16), (#[true, true, true, true, true, true, true, true, true, true, true, true, true, true, true, true, true, true, true, false, false], 19)]
theorem freeA_at {ops : Array Oper} (h : (freesA.all fun t => Region.free .any ops t.1 t.2) = true) (k : Nat) {l : Array Bool} {i : Nat} (hk : freesA[k]? = some (l, i)) : Region.free .any ops l i = true := by
  have := List.all_eq_true.1 h (l, i) (List.mem_of_getElem? hk)
  exact this

def afin (a : Act) (q : Nat) (z : Nat → Value) : Act := (((((((((((((((((((a.put (some (q)) (z 0)).put (some (q + 1)) (z 1)).put (some (q + 2)) (z 2)).put (some (q + 3)) (z 3)).put (some (q + 4)) (z 4)).put (some (q + 5)) (z 5)).put (some (q + 6)) (z 6)).put (some (q + 7)) (z 7)).put (some (q + 8)) (z 8)).put (some (q + 9)) (z 9)).put (some (q + 10)) (z 10)).put (some (q + 11)) (z 11)).put (some (q + 12)) (z 12)).put (some (q + 13)) (z 13)).put (some (q + 14)) (z 14)).put (some (q + 15)) (z 15)).put (some (q + 16)) (z 16)).put (some (q + 17)) (z 17)).put (some (q + 18)) (z 18)).put (some (q + 19)) (z 19)
theorem afin_is {a x : Act} {q : Nat} (hq : q + 19 < a.tmps.size) (hz : x.tmps.size = a.tmps.size) (hd : x.defers = a.defers) (old : ∀ j, (j < q ∨ q + 19 < j) → x.eval (.tmp j) = a.eval (.tmp j)) : x = afin a q (fun t => x.eval (.tmp (q + t))) := by
  unfold afin
  refine act_ext' (hd.trans (by simp only [putD])) (by simp only [putZ]; exact hz) (fun j hj => ?_)
  refine putO (by first | omega | (simp only [putZ]; omega)) (fun c => by rw [c]) (fun c19 => ?_)
  refine putO (by first | omega | (simp only [putZ]; omega)) (fun c => by rw [c]) (fun c18 => ?_)
  refine putO (by first | omega | (simp only [putZ]; omega)) (fun c => by rw [c]) (fun c17 => ?_)
  refine putO (by first | omega | (simp only [putZ]; omega)) (fun c => by rw [c]) (fun c16 => ?_)
  refine putO (by first | omega | (simp only [putZ]; omega)) (fun c => by rw [c]) (fun c15 => ?_)
  refine putO (by first | omega | (simp only [putZ]; omega)) (fun c => by rw [c]) (fun c14 => ?_)
  refine putO (by first | omega | (simp only [putZ]; omega)) (fun c => by rw [c]) (fun c13 => ?_)
  refine putO (by first | omega | (simp only [putZ]; omega)) (fun c => by rw [c]) (fun c12 => ?_)
  refine putO (by first | omega | (simp only [putZ]; omega)) (fun c => by rw [c]) (fun c11 => ?_)
  refine putO (by first | omega | (simp only [putZ]; omega)) (fun c => by rw [c]) (fun c10 => ?_)
  refine putO (by first | omega | (simp only [putZ]; omega)) (fun c => by rw [c]) (fun c9 => ?_)
  refine putO (by first | omega | (simp only [putZ]; omega)) (fun c => by rw [c]) (fun c8 => ?_)
  refine putO (by first | omega | (simp only [putZ]; omega)) (fun c => by rw [c]) (fun c7 => ?_)
  refine putO (by first | omega | (simp only [putZ]; omega)) (fun c => by rw [c]) (fun c6 => ?_)
  refine putO (by first | omega | (simp only [putZ]; omega)) (fun c => by rw [c]) (fun c5 => ?_)
  refine putO (by first | omega | (simp only [putZ]; omega)) (fun c => by rw [c]) (fun c4 => ?_)
  refine putO (by first | omega | (simp only [putZ]; omega)) (fun c => by rw [c]) (fun c3 => ?_)
  refine putO (by first | omega | (simp only [putZ]; omega)) (fun c => by rw [c]) (fun c2 => ?_)
  refine putO (by first | omega | (simp only [putZ]; omega)) (fun c => by rw [c]) (fun c1 => ?_)
  refine putO (by first | omega | (simp only [putZ]; omega)) (fun c => by rw [c]; rfl) (fun c0 => ?_)
  exact old j (by omega)

def c2 (v0 v1 : Value) (j : Nat) : Value := if j = 0 then v0 else v1
set_option maxHeartbeats 2000000 in
theorem region_arc {id : Nat} {a : Act} {w : World} {bx nb ix q : Nat} {pos : String} {Q : Exit → Act → World → Prop} {bb g n cap m k gc B rb : Nat} {go : Option Addr} {F fn : Nat → Int} {p : Value} {W0 : World} {fr : Nat → Value}
    (FR : (freesA.all fun t => Region.free .any (aops bx nb ix q pos) t.1 t.2) = true) (hq : q + 19 < a.tmps.size) (hbx : bx < q) (hnb : nb < q) (hix : ix < q) (HQ : ∀ c a i v w, Q (.panic c) (Act.put a (some i) v) w → Q (.panic c) a w)
    (abx : a.eval (.tmp bx) = .pointer (some ⟨bb, 0, none⟩)) (anb : a.eval (.tmp nb) = .slice (some ⟨g, 0, none⟩) n cap) (aix : a.eval (.tmp ix) = .int .i64 (m : Int))
    (hm : m + 2 < n) (hn : n ≤ 2000000) (hI : IHas w g n fn) (f0 : F (k * 3) = fn m) (f1 : F (k * 3 + 1) = fn (m + 1)) (f2 : F (k * 3 + 2) = fn (m + 2))
    (vG : VHas w bb 26 2 (c2 p (.slice go k gc))) (vR : VHas w rb 26 2 fr) (hO : OwnA w B go k gc F) (hk : k ≤ 10000000) (hgB : g < B) (hbB : bb < B) (hrB : rb < B) (hgb : g ≠ bb) (hrb : rb ≠ bb) (hBw : B ≤ w.heap.size)
    (hW : Below W0.heap.size W0 w) (hW1 : W0.heap.size ≤ bb) (hW2 : W0.heap.size ≤ B)
    (HK : ∀ X g' gc' z, VHas X bb 26 2 (c2 p (.slice (some ⟨g', 0, none⟩) (k + 1) gc')) → VHas X rb 26 2 fr → OwnA X B (some ⟨g', 0, none⟩) (k + 1) gc' F → IHas X g n fn → B ≤ X.heap.size → Below W0.heap.size W0 X → Q .normal (afin a q z) X) :
    (Code.region id (aops bx nb ix q pos) true).wp Tryd.prog Q a w := by
  have c0 := hI.cell (j := m) (by omega)
  have c1 := hI.cell (j := m + 1) (by omega)
  have c2' := hI.cell (j := m + 2) (by omega)
  have hd := (Below.refl w.heap.size w).drew
  have hba : Below w.drew.heap.size w.drew (w.drew.alloc (.cells #[.int .i64 (fn m), .int .i64 (fn (m + 1)), .int .i64 (fn (m + 2))] 37)) := (Below.refl w.drew.heap.size w.drew).alloc (Nat.le_refl _) (.cells #[.int .i64 (fn m), .int .i64 (fn (m + 1)), .int .i64 (fn (m + 2))] 37)
  have hdz : w.drew.heap.size = w.heap.size := rfl
  have hS0 : (fun Y : World => Y.cell? ⟨g, m, none⟩ = some (.int .i64 (fn m)) ∧ Y.cell? ⟨g, m + 1, none⟩ = some (.int .i64 (fn (m + 1))) ∧ Y.cell? ⟨g, m + 2, none⟩ = some (.int .i64 (fn (m + 2)))) w.drew := ⟨c0, c1, c2'⟩
  have hS1 : (fun Y : World => Y.cell? ⟨g, m, none⟩ = some (.int .i64 (fn m)) ∧ Y.cell? ⟨g, m + 1, none⟩ = some (.int .i64 (fn (m + 1))) ∧ Y.cell? ⟨g, m + 2, none⟩ = some (.int .i64 (fn (m + 2)))) (w.drew.alloc (.cells #[.int .i64 (fn m), .int .i64 (fn (m + 1)), .int .i64 (fn (m + 2))] 37)) := ⟨keep_cell hba (Nat.le_refl _) c0, keep_cell hba (Nat.le_refl _) c1, keep_cell hba (Nat.le_refl _) c2'⟩
  have vG1 := (vG.next hd).next hba
  have vR1 := (vR.next hd).next hba
  have hI1 := (hI.below hd hI.lt).below hba hI.lt
  have hO1 := (hO.next hd).next hba
  have hne : ∀ x, (Value.slice go k gc).ownBlock = some x → B ≤ x := fun x e => (hO.at e).1
  -- behind the load and the new arc, in either order
  have tail : ∀ (y : Act) (lst : Array Bool), lst = #[true, true, true, true, true, true, true, true, true, true, true, true, true, true, true, true, true, true, false, false, false] → y.tmps.size = a.tmps.size → y.defers = a.defers → (∀ j, (j < q ∨ q + 19 < j) → y.eval (.tmp j) = a.eval (.tmp j)) → y.eval (.tmp (q + 1)) = .slice go k gc → y.eval (.tmp (q + 17)) = .slice (some ⟨w.heap.size, 0, none⟩) 1 1 →
      wpAnyH Tryd.prog .any (aops bx nb ix q pos) Q (fun Y : World => Y.cell? ⟨g, m, none⟩ = some (.int .i64 (fn m)) ∧ Y.cell? ⟨g, m + 1, none⟩ = some (.int .i64 (fn (m + 1))) ∧ Y.cell? ⟨g, m + 2, none⟩ = some (.int .i64 (fn (m + 2)))) 3 lst y (w.drew.alloc (.cells #[.int .i64 (fn m), .int .i64 (fn (m + 1)), .int .i64 (fn (m + 2))] 37)) := by
    rintro y lst rfl yz yd yo y1 y17
    have ybx := (yo bx (.inl hbx)).trans abx
    refine step1H 18 _ rfl (by kernel_rfl) (by rfl) ?_
    refine wp_append_known (.tmp (q + 1)) (.tmp (q + 17)) rfl B k gc go F y1 hO1 w.heap.size y17 (by rw [f0, f1, f2]; exact Go.Deep.blk_alloc_new _ _) hk (by simp; omega) ?_
    intro g' gc' w6 hown6 hgrow hr6
    have hS6 : (fun Y : World => Y.cell? ⟨g, m, none⟩ = some (.int .i64 (fn m)) ∧ Y.cell? ⟨g, m + 1, none⟩ = some (.int .i64 (fn (m + 1))) ∧ Y.cell? ⟨g, m + 2, none⟩ = some (.int .i64 (fn (m + 2)))) w6 := ⟨hgrow.cell hS1.1 (fun e => by have := hne g e.symm; omega), hgrow.cell hS1.2.1 (fun e => by have := hne g e.symm; omega), hgrow.cell hS1.2.2 (fun e => by have := hne g e.symm; omega)⟩
    refine ⟨hS6, ?_⟩
    have x2 := vG1.grown hgrow (fun e => by have := hne _ e.symm; omega)
    have x1 := vR1.grown hgrow (fun e => by have := hne _ e.symm; omega)
    have xI := hI1.grown hgrow (fun e => by have := hne _ e.symm; omega)
    have b1 : w6.cell? ⟨bb, 1, none⟩ = some (.slice go k gc) := x2.cell (j := 1) (by omega)
    have z18 : q + 19 < (y.put (some (q + 18)) (.slice (some ⟨g', 0, none⟩) (k + 1) gc')).tmps.size := by rw [putZ]; omega
    have y18 : ((y.put (some (q + 18)) (.slice (some ⟨g', 0, none⟩) (k + 1) gc')).put (some (q + 19)) (.pointer (some ⟨bb, 1, none⟩))).eval (.tmp (q + 18)) = .slice (some ⟨g', 0, none⟩) (k + 1) gc' := (putN (by omega)).trans (putS (by omega))
    have y19 : ((y.put (some (q + 18)) (.slice (some ⟨g', 0, none⟩) (k + 1) gc')).put (some (q + 19)) (.pointer (some ⟨bb, 1, none⟩))).eval (.tmp (q + 19)) = .pointer (some ⟨bb, 1, none⟩) := putS z18
    refine takeH 19 (some (q + 19)) (.pointer (some ⟨bb, 1, none⟩)) rfl rfl (by kernel_rfl) (freeA_at FR 16 (by kernel_rfl)) (by kernel_rfl) (fun c a w => HQ c a _ _ w) (by rfl) hS6 (fun V hV => ru_field ((putN (by omega)).trans ybx)) ?_
    refine step1H 20 _ rfl (by kernel_rfl) (by rfl) (wp_of_skip (ru_store y19 y18 b1 (x2.frozen 1)) ?_)
    have hs9 := gr_setCell w6 bb 1 (.slice (some ⟨g', 0, none⟩) (k + 1) gc')
    refine ⟨⟨hs9.cell hS6.1 (by simp; omega), hs9.cell hS6.2.1 (by simp; omega), hs9.cell hS6.2.2 (by simp; omega)⟩, ?_⟩
    refine wpAnyH_done (by kernel_rfl) ?_ _
    have n2 := (x2.set 1 (.slice (some ⟨g', 0, none⟩) (k + 1) gc')).congr (g := c2 p (.slice (some ⟨g', 0, none⟩) (k + 1) gc')) (fun j hj => by
      have : j = 0 ∨ j = 1 := by omega
      rcases this with rfl | rfl <;> rfl)
    have n1 := x1.other (c := bb) (i := 1) hrb (.slice (some ⟨g', 0, none⟩) (k + 1) gc')
    have nI := xI.grown hs9 (by simp; omega)
    have nO := hown6.grown hs9 (fun x e => by have := (hown6.at e).1; simp; omega)
    have hsz6 : w.heap.size ≤ w6.heap.size := by have := hgrow.size; simp at this; omega
    have hsz9 : B ≤ (w6.setCell ⟨bb, 1, none⟩ (.slice (some ⟨g', 0, none⟩) (k + 1) gc')).heap.size := by have := hs9.size; omega
    have nB0 := (hW.drew.alloc (o := (.cells #[.int .i64 (fn m), .int .i64 (fn (m + 1)), .int .i64 (fn (m + 2))] 37)) (by have := hW.size; simp; omega)).grown hgrow (by have := hW.size; simp; omega) (fun x e => by have := hne x e; omega)
    have nB := nB0.setCell (p := ⟨bb, 1, none⟩) (by simpa using hW1) (.slice (some ⟨g', 0, none⟩) (k + 1) gc')
    have E := afin_is (a := a) (x := (y.put (some (q + 18)) (.slice (some ⟨g', 0, none⟩) (k + 1) gc')).put (some (q + 19)) (.pointer (some ⟨bb, 1, none⟩))) hq (by rw [putZ, putZ]; exact yz) (by rw [putD, putD]; exact yd) (fun j hj => by rw [putN (by omega), putN (by omega)]; exact yo j hj)
    have := HK _ g' gc' (fun t => ((y.put (some (q + 18)) (.slice (some ⟨g', 0, none⟩) (k + 1) gc')).put (some (q + 19)) (.pointer (some ⟨bb, 1, none⟩))).eval (.tmp (q + t))) n2 n1 nO nI hsz9 nB
    rw [← E] at this
    exact this
  refine wp_region_held_drew (S := (fun Y : World => Y.cell? ⟨g, m, none⟩ = some (.int .i64 (fn m)) ∧ Y.cell? ⟨g, m + 1, none⟩ = some (.int .i64 (fn (m + 1))) ∧ Y.cell? ⟨g, m + 2, none⟩ = some (.int .i64 (fn (m + 2))))) (by kernel_rfl) hS0 (fun hS0 => ?_)
  refine takeH 0 (some q) (.pointer (some ⟨bb, 1, none⟩)) rfl rfl (by kernel_rfl) (freeA_at FR 0 (by kernel_rfl)) (by kernel_rfl) (fun c a w => HQ c a _ _ w) (by rfl) hS0 (fun V hV => ru_field (abx)) ?_
  refine takeH 2 (some (q + 2)) (.slice (some ⟨g, 0, none⟩) n cap) rfl rfl (by kernel_rfl) (freeA_at FR 1 (by kernel_rfl)) (by kernel_rfl) (fun c a w => HQ c a _ _ w) (by rfl) hS0 (fun V hV => ru_move ((putN (by omega)).trans (anb))) ?_
  refine takeH 3 (some (q + 3)) (.int .i64 (m : Int)) rfl rfl (by kernel_rfl) (freeA_at FR 2 (by kernel_rfl)) (by kernel_rfl) (fun c a w => HQ c a _ _ w) (by rfl) hS0 (fun V hV => ru_move ((putN (by omega)).trans ((putN (by omega)).trans (aix)))) ?_
  refine takeH 4 (some (q + 4)) (.pointer (some ⟨g, m, none⟩)) rfl rfl (by kernel_rfl) (freeA_at FR 3 (by kernel_rfl)) (by kernel_rfl) (fun c a w => HQ c a _ _ w) (by rfl) hS0 (fun V hV => ru_index ((putN (by omega)).trans (putS (by first | omega | (simp only [putZ]; omega)))) (putS (by first | omega | (simp only [putZ]; omega))) rfl (by omega)) ?_
  refine takeH 5 (some (q + 5)) (.int .i64 (fn m)) rfl rfl (by kernel_rfl) (freeA_at FR 4 (by kernel_rfl)) (by kernel_rfl) (fun c a w => HQ c a _ _ w) (by rfl) hS0 (fun V hV => ru_loadI (putS (by first | omega | (simp only [putZ]; omega))) hV.1) ?_
  refine takeH 6 (some (q + 6)) (.slice (some ⟨g, 0, none⟩) n cap) rfl rfl (by kernel_rfl) (freeA_at FR 5 (by kernel_rfl)) (by kernel_rfl) (fun c a w => HQ c a _ _ w) (by rfl) hS0 (fun V hV => ru_move ((putN (by omega)).trans ((putN (by omega)).trans ((putN (by omega)).trans ((putN (by omega)).trans ((putN (by omega)).trans (anb))))))) ?_
  refine takeH 7 (some (q + 7)) (.int .i64 (m : Int)) rfl rfl (by kernel_rfl) (freeA_at FR 6 (by kernel_rfl)) (by kernel_rfl) (fun c a w => HQ c a _ _ w) (by rfl) hS0 (fun V hV => ru_move ((putN (by omega)).trans ((putN (by omega)).trans ((putN (by omega)).trans ((putN (by omega)).trans ((putN (by omega)).trans ((putN (by omega)).trans (aix)))))))) ?_
  refine takeH 8 (some (q + 8)) (.int .i64 ((m : Int) + 1)) rfl rfl (by kernel_rfl) (freeA_at FR 7 (by kernel_rfl)) (by kernel_rfl) (fun c a w => HQ c a _ _ w) (by rfl) hS0 (fun V hV => ru_add rfl (putS (by first | omega | (simp only [putZ]; omega))) (by omega) (by omega) (by omega) (by omega)) ?_
  refine takeH 9 (some (q + 9)) (.pointer (some ⟨g, m + 1, none⟩)) rfl rfl (by kernel_rfl) (freeA_at FR 8 (by kernel_rfl)) (by kernel_rfl) (fun c a w => HQ c a _ _ w) (by rfl) hS0 (fun V hV => ru_index ((putN (by omega)).trans ((putN (by omega)).trans (putS (by first | omega | (simp only [putZ]; omega))))) (putS (by first | omega | (simp only [putZ]; omega))) (by omega) (by omega)) ?_
  refine takeH 10 (some (q + 10)) (.int .i64 (fn (m + 1))) rfl rfl (by kernel_rfl) (freeA_at FR 9 (by kernel_rfl)) (by kernel_rfl) (fun c a w => HQ c a _ _ w) (by rfl) hS0 (fun V hV => ru_loadI (putS (by first | omega | (simp only [putZ]; omega))) hV.2.1) ?_
  refine takeH 11 (some (q + 11)) (.slice (some ⟨g, 0, none⟩) n cap) rfl rfl (by kernel_rfl) (freeA_at FR 10 (by kernel_rfl)) (by kernel_rfl) (fun c a w => HQ c a _ _ w) (by rfl) hS0 (fun V hV => ru_move ((putN (by omega)).trans ((putN (by omega)).trans ((putN (by omega)).trans ((putN (by omega)).trans ((putN (by omega)).trans ((putN (by omega)).trans ((putN (by omega)).trans ((putN (by omega)).trans ((putN (by omega)).trans ((putN (by omega)).trans (anb)))))))))))) ?_
  refine takeH 12 (some (q + 12)) (.int .i64 (m : Int)) rfl rfl (by kernel_rfl) (freeA_at FR 11 (by kernel_rfl)) (by kernel_rfl) (fun c a w => HQ c a _ _ w) (by rfl) hS0 (fun V hV => ru_move ((putN (by omega)).trans ((putN (by omega)).trans ((putN (by omega)).trans ((putN (by omega)).trans ((putN (by omega)).trans ((putN (by omega)).trans ((putN (by omega)).trans ((putN (by omega)).trans ((putN (by omega)).trans ((putN (by omega)).trans ((putN (by omega)).trans (aix))))))))))))) ?_
  refine takeH 13 (some (q + 13)) (.int .i64 ((m : Int) + 2)) rfl rfl (by kernel_rfl) (freeA_at FR 12 (by kernel_rfl)) (by kernel_rfl) (fun c a w => HQ c a _ _ w) (by rfl) hS0 (fun V hV => ru_add rfl (putS (by first | omega | (simp only [putZ]; omega))) (by omega) (by omega) (by omega) (by omega)) ?_
  refine takeH 14 (some (q + 14)) (.pointer (some ⟨g, m + 2, none⟩)) rfl rfl (by kernel_rfl) (freeA_at FR 13 (by kernel_rfl)) (by kernel_rfl) (fun c a w => HQ c a _ _ w) (by rfl) hS0 (fun V hV => ru_index ((putN (by omega)).trans ((putN (by omega)).trans (putS (by first | omega | (simp only [putZ]; omega))))) (putS (by first | omega | (simp only [putZ]; omega))) (by omega) (by omega)) ?_
  refine takeH 15 (some (q + 15)) (.int .i64 (fn (m + 2))) rfl rfl (by kernel_rfl) (freeA_at FR 14 (by kernel_rfl)) (by kernel_rfl) (fun c a w => HQ c a _ _ w) (by rfl) hS0 (fun V hV => ru_loadI (putS (by first | omega | (simp only [putZ]; omega))) hV.2.2) ?_
  refine takeH 16 (some (q + 16)) (.agg #[.int .i64 (fn m), .int .i64 (fn (m + 1)), .int .i64 (fn (m + 2))]) rfl rfl (by kernel_rfl) (freeA_at FR 15 (by kernel_rfl)) (by kernel_rfl) (fun c a w => HQ c a _ _ w) (by rfl) hS0 (fun V hV => ru_build ((putN (by omega)).trans ((putN (by omega)).trans ((putN (by omega)).trans ((putN (by omega)).trans ((putN (by omega)).trans ((putN (by omega)).trans ((putN (by omega)).trans ((putN (by omega)).trans ((putN (by omega)).trans ((putN (by omega)).trans (putS (by first | omega | (simp only [putZ]; omega))))))))))))) ((putN (by omega)).trans ((putN (by omega)).trans ((putN (by omega)).trans ((putN (by omega)).trans ((putN (by omega)).trans (putS (by first | omega | (simp only [putZ]; omega)))))))) (putS (by first | omega | (simp only [putZ]; omega)))) ?_
  have xz : ((((((((((((((((a.put (some q) (.pointer (some ⟨bb, 1, none⟩))).put (some (q + 2)) (.slice (some ⟨g, 0, none⟩) n cap)).put (some (q + 3)) (.int .i64 (m : Int))).put (some (q + 4)) (.pointer (some ⟨g, m, none⟩))).put (some (q + 5)) (.int .i64 (fn m))).put (some (q + 6)) (.slice (some ⟨g, 0, none⟩) n cap)).put (some (q + 7)) (.int .i64 (m : Int))).put (some (q + 8)) (.int .i64 ((m : Int) + 1))).put (some (q + 9)) (.pointer (some ⟨g, m + 1, none⟩))).put (some (q + 10)) (.int .i64 (fn (m + 1)))).put (some (q + 11)) (.slice (some ⟨g, 0, none⟩) n cap)).put (some (q + 12)) (.int .i64 (m : Int))).put (some (q + 13)) (.int .i64 ((m : Int) + 2))).put (some (q + 14)) (.pointer (some ⟨g, m + 2, none⟩))).put (some (q + 15)) (.int .i64 (fn (m + 2)))).put (some (q + 16)) (.agg #[.int .i64 (fn m), .int .i64 (fn (m + 1)), .int .i64 (fn (m + 2))])).tmps.size = a.tmps.size := by simp only [putZ]
  have xd : ((((((((((((((((a.put (some q) (.pointer (some ⟨bb, 1, none⟩))).put (some (q + 2)) (.slice (some ⟨g, 0, none⟩) n cap)).put (some (q + 3)) (.int .i64 (m : Int))).put (some (q + 4)) (.pointer (some ⟨g, m, none⟩))).put (some (q + 5)) (.int .i64 (fn m))).put (some (q + 6)) (.slice (some ⟨g, 0, none⟩) n cap)).put (some (q + 7)) (.int .i64 (m : Int))).put (some (q + 8)) (.int .i64 ((m : Int) + 1))).put (some (q + 9)) (.pointer (some ⟨g, m + 1, none⟩))).put (some (q + 10)) (.int .i64 (fn (m + 1)))).put (some (q + 11)) (.slice (some ⟨g, 0, none⟩) n cap)).put (some (q + 12)) (.int .i64 (m : Int))).put (some (q + 13)) (.int .i64 ((m : Int) + 2))).put (some (q + 14)) (.pointer (some ⟨g, m + 2, none⟩))).put (some (q + 15)) (.int .i64 (fn (m + 2)))).put (some (q + 16)) (.agg #[.int .i64 (fn m), .int .i64 (fn (m + 1)), .int .i64 (fn (m + 2))])).defers = a.defers := by simp only [putD]
  have xo : ∀ j, (j < q ∨ q + 19 < j) → ((((((((((((((((a.put (some q) (.pointer (some ⟨bb, 1, none⟩))).put (some (q + 2)) (.slice (some ⟨g, 0, none⟩) n cap)).put (some (q + 3)) (.int .i64 (m : Int))).put (some (q + 4)) (.pointer (some ⟨g, m, none⟩))).put (some (q + 5)) (.int .i64 (fn m))).put (some (q + 6)) (.slice (some ⟨g, 0, none⟩) n cap)).put (some (q + 7)) (.int .i64 (m : Int))).put (some (q + 8)) (.int .i64 ((m : Int) + 1))).put (some (q + 9)) (.pointer (some ⟨g, m + 1, none⟩))).put (some (q + 10)) (.int .i64 (fn (m + 1)))).put (some (q + 11)) (.slice (some ⟨g, 0, none⟩) n cap)).put (some (q + 12)) (.int .i64 (m : Int))).put (some (q + 13)) (.int .i64 ((m : Int) + 2))).put (some (q + 14)) (.pointer (some ⟨g, m + 2, none⟩))).put (some (q + 15)) (.int .i64 (fn (m + 2)))).put (some (q + 16)) (.agg #[.int .i64 (fn m), .int .i64 (fn (m + 1)), .int .i64 (fn (m + 2))])).eval (.tmp j) = a.eval (.tmp j) := fun j hj => (putN (by omega)).trans ((putN (by omega)).trans ((putN (by omega)).trans ((putN (by omega)).trans ((putN (by omega)).trans ((putN (by omega)).trans ((putN (by omega)).trans ((putN (by omega)).trans ((putN (by omega)).trans ((putN (by omega)).trans ((putN (by omega)).trans ((putN (by omega)).trans ((putN (by omega)).trans ((putN (by omega)).trans ((putN (by omega)).trans ((putN (by omega)).trans (rfl))))))))))))))))
  have x0 : ((((((((((((((((a.put (some q) (.pointer (some ⟨bb, 1, none⟩))).put (some (q + 2)) (.slice (some ⟨g, 0, none⟩) n cap)).put (some (q + 3)) (.int .i64 (m : Int))).put (some (q + 4)) (.pointer (some ⟨g, m, none⟩))).put (some (q + 5)) (.int .i64 (fn m))).put (some (q + 6)) (.slice (some ⟨g, 0, none⟩) n cap)).put (some (q + 7)) (.int .i64 (m : Int))).put (some (q + 8)) (.int .i64 ((m : Int) + 1))).put (some (q + 9)) (.pointer (some ⟨g, m + 1, none⟩))).put (some (q + 10)) (.int .i64 (fn (m + 1)))).put (some (q + 11)) (.slice (some ⟨g, 0, none⟩) n cap)).put (some (q + 12)) (.int .i64 (m : Int))).put (some (q + 13)) (.int .i64 ((m : Int) + 2))).put (some (q + 14)) (.pointer (some ⟨g, m + 2, none⟩))).put (some (q + 15)) (.int .i64 (fn (m + 2)))).put (some (q + 16)) (.agg #[.int .i64 (fn m), .int .i64 (fn (m + 1)), .int .i64 (fn (m + 2))])).eval (.tmp q) = .pointer (some ⟨bb, 1, none⟩) := ((putN (by omega)).trans ((putN (by omega)).trans ((putN (by omega)).trans ((putN (by omega)).trans ((putN (by omega)).trans ((putN (by omega)).trans ((putN (by omega)).trans ((putN (by omega)).trans ((putN (by omega)).trans ((putN (by omega)).trans ((putN (by omega)).trans ((putN (by omega)).trans ((putN (by omega)).trans ((putN (by omega)).trans ((putN (by omega)).trans (putS (by first | omega | (simp only [putZ]; omega))))))))))))))))))
  have x16 : ((((((((((((((((a.put (some q) (.pointer (some ⟨bb, 1, none⟩))).put (some (q + 2)) (.slice (some ⟨g, 0, none⟩) n cap)).put (some (q + 3)) (.int .i64 (m : Int))).put (some (q + 4)) (.pointer (some ⟨g, m, none⟩))).put (some (q + 5)) (.int .i64 (fn m))).put (some (q + 6)) (.slice (some ⟨g, 0, none⟩) n cap)).put (some (q + 7)) (.int .i64 (m : Int))).put (some (q + 8)) (.int .i64 ((m : Int) + 1))).put (some (q + 9)) (.pointer (some ⟨g, m + 1, none⟩))).put (some (q + 10)) (.int .i64 (fn (m + 1)))).put (some (q + 11)) (.slice (some ⟨g, 0, none⟩) n cap)).put (some (q + 12)) (.int .i64 (m : Int))).put (some (q + 13)) (.int .i64 ((m : Int) + 2))).put (some (q + 14)) (.pointer (some ⟨g, m + 2, none⟩))).put (some (q + 15)) (.int .i64 (fn (m + 2)))).put (some (q + 16)) (.agg #[.int .i64 (fn m), .int .i64 (fn (m + 1)), .int .i64 (fn (m + 2))])).eval (.tmp (q + 16)) = .agg #[.int .i64 (fn m), .int .i64 (fn (m + 1)), .int .i64 (fn (m + 2))] := (putS (by first | omega | (simp only [putZ]; omega)))
  generalize ((((((((((((((((a.put (some q) (.pointer (some ⟨bb, 1, none⟩))).put (some (q + 2)) (.slice (some ⟨g, 0, none⟩) n cap)).put (some (q + 3)) (.int .i64 (m : Int))).put (some (q + 4)) (.pointer (some ⟨g, m, none⟩))).put (some (q + 5)) (.int .i64 (fn m))).put (some (q + 6)) (.slice (some ⟨g, 0, none⟩) n cap)).put (some (q + 7)) (.int .i64 (m : Int))).put (some (q + 8)) (.int .i64 ((m : Int) + 1))).put (some (q + 9)) (.pointer (some ⟨g, m + 1, none⟩))).put (some (q + 10)) (.int .i64 (fn (m + 1)))).put (some (q + 11)) (.slice (some ⟨g, 0, none⟩) n cap)).put (some (q + 12)) (.int .i64 (m : Int))).put (some (q + 13)) (.int .i64 ((m : Int) + 2))).put (some (q + 14)) (.pointer (some ⟨g, m + 2, none⟩))).put (some (q + 15)) (.int .i64 (fn (m + 2)))).put (some (q + 16)) (.agg #[.int .i64 (fn m), .int .i64 (fn (m + 1)), .int .i64 (fn (m + 2))])) = x at xz xd xo x0 x16 ⊢
  have b1 : w.drew.cell? ⟨bb, 1, none⟩ = some (.slice go k gc) := vG.cell (j := 1) (by omega)
  refine step2H 1 17 _ _ rfl rfl (by kernel_rfl) (by rfl) (by rfl) ?_ ?_
  · refine wp_of_run (ru_loadA x0 b1) ⟨hS0, ?_⟩
    refine step1H 17 _ rfl (by kernel_rfl) (by rfl) (wp_of_made (ru_slice ((putN (by omega)).trans x16)) ⟨hS1, ?_⟩)
    exact tail ((x.put (some (q + 1)) (.slice go k gc)).put (some (q + 17)) (.slice (some ⟨w.heap.size, 0, none⟩) 1 1)) _ (by kernel_rfl) (by simp only [putZ]; exact xz) (by simp only [putD]; exact xd) (fun j hj => by rw [putN (by omega), putN (by omega)]; exact xo j hj) ((putN (by omega)).trans (putS (by omega))) (putS (by rw [putZ]; omega))
  · refine wp_of_made (ru_slice x16) ⟨hS1, ?_⟩
    refine step1H 1 _ rfl (by kernel_rfl) (by rfl) (wp_of_run (ru_loadA ((putN (by omega)).trans x0) (keep_cell hba (Nat.le_refl _) b1)) ⟨hS1, ?_⟩)
    exact tail ((x.put (some (q + 17)) (.slice (some ⟨w.heap.size, 0, none⟩) 1 1)).put (some (q + 1)) (.slice go k gc)) _ (by kernel_rfl) (by simp only [putZ]; exact xz) (by simp only [putD]; exact xd) (fun j hj => by rw [putN (by omega), putN (by omega)]; exact xo j hj) (putS (by rw [putZ]; omega)) ((putN (by omega)).trans (putS (by omega)))

end Go.Proofs.YtcmeppjfjledfaaDoor

/-
  Is an arc right: the program's helpers.
-/
set_option linter.unusedVariables false
set_option linter.unusedSimpArgs false
namespace Go.Proofs.YtcmeppjfjledfaaDoor
open Go.RowKit

theorem weightOk_any (x : Int) (w : World) :
    Calls Tryd.prog 37 #[.int .i64 x] w fun e w' => e = .returned (.bool (inB x 1 1000000)) ∧ w' = w := by
  by_cases h1 : 1 ≤ x <;> by_cases h2 : x ≤ 1000000 <;>
  · go_enter Tryd.func37, Tryd.ntmps37
    go_wp2
    go_ret
    exact ⟨by simp [inB, h1, h2], rfl⟩
set_option maxHeartbeats 800000 in
theorem arcOk_any (f t g p : Int) (w : World) :
    Calls Tryd.prog 18 #[.agg #[.int .i64 f, .int .i64 t, .int .i64 g], .int .i64 p] w fun e w' => e = .returned (.bool (arcB f t g p)) ∧ Below w.heap.size w w' := by
  unfold arcB
  rcases Bool.eq_false_or_eq_true (inB f 0 (p - 1)) with h1 | h1
  · rcases Bool.eq_false_or_eq_true (inB t 0 (p - 1)) with h2 | h2
    · rcases Bool.eq_false_or_eq_true (f != t) with h3 | h3 <;>
      · go_enter Tryd.func18, Tryd.ntmps18
        go_wp2_with (first | (go_at_call 36; refine (placeOk_any _ _ _).mono ?_; rintro e w1 ⟨rfl, rfl⟩) | (go_at_call 37; refine (weightOk_any _ _).mono ?_; rintro e w1 ⟨rfl, rfl⟩))
        go_ret
        exact ⟨by simp [h1, h2, h3], (Below.refl _ _).alloc (Nat.le_refl _) _⟩
    · go_enter Tryd.func18, Tryd.ntmps18
      go_wp2_with (first | (go_at_call 36; refine (placeOk_any _ _ _).mono ?_; rintro e w1 ⟨rfl, rfl⟩) | (go_at_call 37; refine (weightOk_any _ _).mono ?_; rintro e w1 ⟨rfl, rfl⟩))
      go_ret
      exact ⟨by simp [h1, h2], (Below.refl _ _).alloc (Nat.le_refl _) _⟩
  · go_enter Tryd.func18, Tryd.ntmps18
    go_wp2_with (first | (go_at_call 36; refine (placeOk_any _ _ _).mono ?_; rintro e w1 ⟨rfl, rfl⟩) | (go_at_call 37; refine (weightOk_any _ _).mono ?_; rintro e w1 ⟨rfl, rfl⟩))
    go_ret
    exact ⟨by simp [h1], (Below.refl _ _).alloc (Nat.le_refl _) _⟩

end Go.Proofs.YtcmeppjfjledfaaDoor

/-
  GraphOk, the program's helpers.
-/
set_option linter.unusedVariables false
set_option linter.unusedSimpArgs false
namespace Go.Proofs.YtcmeppjfjledfaaDoor
open Go.RowKit

theorem endsOf_any (f t g : Int) (w : World) :
    Calls Tryd.prog 19 #[.agg #[.int .i64 f, .int .i64 t, .int .i64 g]] w fun e w' => e = .returned (.agg #[.int .i64 f, .int .i64 t]) ∧ Below w.heap.size w w' := by
  go_enter Tryd.func19, Tryd.ntmps19
  go_wp2
  simp [bodyPost, results, Tryd.results19, go_sem]
  exact ((Below.refl _ _).alloc (Nat.le_refl _) _).alloc (by simp) _
set_option maxHeartbeats 800000 in
theorem below_any (f t f' t' : Int) (w : World) :
    Calls Tryd.prog 20 #[.agg #[.int .i64 f, .int .i64 t], .agg #[.int .i64 f', .int .i64 t']] w fun e w' => e = .returned (.bool (upB f t f' t')) ∧ Below w.heap.size w w' := by
  unfold upB
  by_cases h1 : f < f'
  · go_enter Tryd.func20, Tryd.ntmps20
    go_wp2
    go_ret
    exact ⟨by simp [h1], ((Below.refl _ _).alloc (Nat.le_refl _) _).alloc (by simp) _⟩
  · rcases Bool.eq_false_or_eq_true (f == f') with h2 | h2
    · by_cases h3 : t < t' <;>
      · go_enter Tryd.func20, Tryd.ntmps20
        go_wp2
        go_ret
        exact ⟨by simp [h1, h2, h3], ((Below.refl _ _).alloc (Nat.le_refl _) _).alloc (by simp) _⟩
    · go_enter Tryd.func20, Tryd.ntmps20
      go_wp2
      go_ret
      exact ⟨by simp [h1, h2], ((Below.refl _ _).alloc (Nat.le_refl _) _).alloc (by simp) _⟩

end Go.Proofs.YtcmeppjfjledfaaDoor

/-
  The document's GraphOk answers 'graphB' of the map's places and arcs, for every map.
-/
set_option linter.unusedVariables false
set_option linter.unusedSimpArgs false
namespace Go.Proofs.YtcmeppjfjledfaaDoor
open Go.RowKit

theorem arcsB_no {p : Int} {F T G : Nat → Int} {k : Nat} (h : arcB (F k) (T k) (G k) p = false) : ∀ n, k < n → arcsB p F T G n = false
  | 0, hk => by omega
  | n + 1, hk => by
    by_cases e : k = n
    · subst e; simp [arcsB, h]
    · simp [arcsB, arcsB_no h n (by omega)]
theorem arcsB_down {p : Int} {F T G : Nat → Int} {k : Nat} (h0 : 0 < k) (h : upB (F (k - 1)) (T (k - 1)) (F k) (T k) = false) : ∀ n, k < n → arcsB p F T G n = false
  | 0, hk => by omega
  | n + 1, hk => by
    by_cases e : k = n
    · subst e
      have : (k == 0) = false := by simp; omega
      simp [arcsB, h, this]
    · simp [arcsB, arcsB_down h0 h n (by omega)]
theorem arcsB_step {p : Int} {F T G : Nat → Int} {k : Nat} (h : arcsB p F T G k = true) (ha : arcB (F k) (T k) (G k) p = true) (hu : k = 0 ∨ upB (F (k - 1)) (T (k - 1)) (F k) (T k) = true) : arcsB p F T G (k + 1) = true := by
  rcases hu with hu | hu
  · subst hu; simp [arcsB, ha]
  · simp [arcsB, h, ha, hu]
set_option maxHeartbeats 1600000 in
theorem specGraphOk_any (p : Int) (ao : Option Addr) (n cap : Nat) (F T G : Nat → Int) (hn : n ≤ 1048576) (w : World) (hr : Row w ao n F T G) :
    Calls Tryd.prog 16 #[.agg #[.int .i64 p, .slice ao n cap]] w fun e w' => e = .returned (.bool (graphB p n F T G)) ∧ Below w.heap.size w w' := by
  by_cases h1 : inB p 1 24 = true
  rotate_left
  · have h1 : inB p 1 24 = false := by simpa using h1
    go_enter Tryd.func16, Tryd.ntmps16
    go_wp2_with (go_at_call 33; refine (l1In_any _ _ _ _).mono ?_; rintro e w1 ⟨rfl, rfl⟩)
    go_ret
    exact ⟨by simp [graphB, h1], (Below.refl _ _).alloc (Nat.le_refl _) _⟩
  by_cases h2 : n ≤ 100
  rotate_left
  · go_enter Tryd.func16, Tryd.ntmps16
    go_wp2_with (go_at_call 33; refine (l1In_any _ _ _ _).mono ?_; rintro e w1 ⟨rfl, rfl⟩)
    go_ret
    exact ⟨by simp [graphB, h1, h2], (Below.refl _ _).alloc (Nat.le_refl _) _⟩
  have hp : 1 ≤ p ∧ p ≤ 24 := by simpa [inB] using h1
  obtain ⟨hp1, hp2⟩ := hp
  go_enter Tryd.func16, Tryd.ntmps16
  go_wp2_with (go_at_call 33; refine (l1In_any _ _ _ _).mono ?_; rintro e w1 ⟨rfl, rfl⟩)
  go_loopw [3] (fun i wr => ∃ k : Nat, k ≤ n ∧ i = .int .i64 k ∧ arcsB p F T G k = true ∧ Below (w.heap.size + 1) (w.alloc (.cells #[.int .i64 p, .slice ao n cap] 26)) wr) (fun i _ => n - (intOf i).toNat)
  case atStart => exact ⟨0, Nat.zero_le _, rfl, rfl, Below.refl _ _⟩
  case round =>
    obtain ⟨k, hk, rfl, hok, hbel⟩ := hrel
    have g0 : wr.cell? ⟨w.heap.size, 0, none⟩ = some (.int .i64 p) := by rw [hbel.cell (by simp)]; simp [go_sem]
    have g1 : wr.cell? ⟨w.heap.size, 1, none⟩ = some (.slice ao n cap) := by rw [hbel.cell (by simp)]; simp [go_sem]
    have hsz : w.heap.size < wr.heap.size := by have := hbel.size; simp at this; omega
    have HOK : Hid (arcsB p F T G k = true) := hok
    clear hok
    by_cases hlt : k < n
    rotate_left
    · have hkn : k = n := by omega
      subst hkn
      go_wp2
      go_ret
      exact ⟨ret_bool (by simp [graphB, h1, h2, HOK.out]), unbox hbel (by omega)⟩
    obtain ⟨b, o, hao, c0, c1, c2⟩ := ((hr.alloc _).below hbel (by simp)) k hlt
    subst hao
    rcases Bool.eq_false_or_eq_true (arcB (F k) (T k) (G k) p) with ha | ha
    rotate_left
    · go_wp2_with (go_at_call 34; refine (l1Arc_any _ _ _ _ hp1 hp2 _).mono ?_; rintro e w1 ⟨rfl, hb1⟩)
      go_ret
      exact ⟨ret_bool (by simp [graphB, h1, arcsB_no ha n hlt]), unbox ((hbel.alloc (by omega) _).trans (hb1.mono (by simp; omega))) (by omega)⟩
    by_cases h0 : 0 < k
    rotate_left
    · go_wp2_with (go_at_call 34; refine (l1Arc_any _ _ _ _ hp1 hp2 _).mono ?_; rintro e w1 ⟨rfl, hb1⟩)
      go_roundw
      case rel => exact ⟨k + 1, by omega, by go_num, arcsB_step HOK.out ha (Or.inl (by omega)), (hbel.alloc (by omega) _).trans (hb1.mono (by simp; omega))⟩
      case measure => simp [intOf]; omega
    have hbw : b < wr.heap.size := lt_of_cell c0
    obtain ⟨b', o', hao', d0, d1, d2⟩ := ((hr.alloc _).below hbel (by simp)) (k - 1) (by omega)
    simp only [Option.some.injEq, Addr.mk.injEq, and_true] at hao'
    obtain ⟨rfl, rfl⟩ := hao'
    rcases Int.lt_trichotomy (F (k - 1)) (F k) with hF | hF | hF
    · go_wp2_with (go_at_call 34; refine (l1Arc_any _ _ _ _ hp1 hp2 _).mono ?_; rintro e w1 ⟨rfl, hb1⟩; obtain ⟨hc, hf⟩ := bcell hb1; obtain ⟨hz, hz1, hz2⟩ := three_lt hb1 hsz hbw)
      go_roundw
      case rel => exact ⟨k + 1, by omega, by go_num, arcsB_step HOK.out ha (Or.inr (upB_yes1 hF)), ((hbel.alloc (by omega) _).trans (hb1.mono (by simp; omega))).alloc (by omega) _⟩
      case measure => simp [intOf]; omega
    · have hF1 : F (k - 1) ≤ F k := by omega
      have hF2 : F k ≤ F (k - 1) := by omega
      clear hF
      by_cases hT : T k ≤ T (k - 1)
      · go_wp2_with (go_at_call 34; refine (l1Arc_any _ _ _ _ hp1 hp2 _).mono ?_; rintro e w1 ⟨rfl, hb1⟩; obtain ⟨hc, hf⟩ := bcell hb1; obtain ⟨hz, hz1, hz2⟩ := three_lt hb1 hsz hbw)
        go_ret
        exact ⟨ret_bool (by simp [graphB, h1, arcsB_down h0 (upB_no2 hF1 hF2 hT) n hlt]), unbox (((hbel.alloc (by omega) _).trans (hb1.mono (by simp; omega))).alloc (by omega) _) (by omega)⟩
      · go_wp2_with (go_at_call 34; refine (l1Arc_any _ _ _ _ hp1 hp2 _).mono ?_; rintro e w1 ⟨rfl, hb1⟩; obtain ⟨hc, hf⟩ := bcell hb1; obtain ⟨hz, hz1, hz2⟩ := three_lt hb1 hsz hbw)
        go_roundw
        case rel => exact ⟨k + 1, by omega, by go_num, arcsB_step HOK.out ha (Or.inr (upB_yes2 hF1 hF2 (by omega))), ((hbel.alloc (by omega) _).trans (hb1.mono (by simp; omega))).alloc (by omega) _⟩
        case measure => simp [intOf]; omega
    · go_wp2_with (go_at_call 34; refine (l1Arc_any _ _ _ _ hp1 hp2 _).mono ?_; rintro e w1 ⟨rfl, hb1⟩; obtain ⟨hc, hf⟩ := bcell hb1; obtain ⟨hz, hz1, hz2⟩ := three_lt hb1 hsz hbw)
      go_ret
      exact ⟨ret_bool (by simp [graphB, h1, arcsB_down h0 (upB_no1 hF) n hlt]), unbox (((hbel.alloc (by omega) _).trans (hb1.mono (by simp; omega))).alloc (by omega) _) (by omega)⟩

end Go.Proofs.YtcmeppjfjledfaaDoor

/-
  The program's GraphOk answers 'graphB' of the map's places and arcs, for every map.
-/
set_option linter.unusedVariables false
set_option linter.unusedSimpArgs false
namespace Go.Proofs.YtcmeppjfjledfaaDoor
open Go.RowKit
attribute [local go_sem ↓] Go.wp_at_zero Go.wp_at_succ

set_option maxHeartbeats 1600000 in
theorem implGraphOk_any (p : Int) (ao : Option Addr) (n cap : Nat) (F T G : Nat → Int) (hn : n ≤ 1048576) (w : World) (hr : Row w ao n F T G) :
    Calls Tryd.prog 8 #[.agg #[.int .i64 p, .slice ao n cap]] w fun e w' => e = .returned (.bool (graphB p n F T G)) ∧ Below w.heap.size w w' := by
  by_cases h1 : p < 1
  · go_enter Tryd.func8, Tryd.ntmps8
    go_wp2
    go_ret
    exact ⟨ret_bool (by simp [graphB, inB]; omega), (Below.refl _ _).alloc (Nat.le_refl _) _⟩
  by_cases h2 : 24 < p
  · go_enter Tryd.func8, Tryd.ntmps8
    go_wp2
    go_ret
    exact ⟨ret_bool (by simp [graphB, inB]; omega), (Below.refl _ _).alloc (Nat.le_refl _) _⟩
  have hin : Hid (inB p 1 24 = true) := by show inB p 1 24 = true; simp [inB]; omega
  by_cases h3 : 100 < n
  · go_enter Tryd.func8, Tryd.ntmps8
    go_wp2
    go_ret
    exact ⟨ret_bool (by simp [graphB]; omega), (Below.refl _ _).alloc (Nat.le_refl _) _⟩
  have hn' : Hid (decide (n ≤ 100) = true) := by show decide (n ≤ 100) = true; simp; omega
  go_enter Tryd.func8, Tryd.ntmps8
  go_wp2
  go_loopw [22] (fun i wr => ∃ k : Nat, k ≤ n ∧ i = .int .i64 k ∧ arcsB p F T G k = true ∧ Below (w.heap.size + 1) (w.alloc (.cells #[.int .i64 p, .slice ao n cap] 26)) wr) (fun i _ => n - (intOf i).toNat)
  case atStart => exact ⟨0, Nat.zero_le _, rfl, rfl, Below.refl _ _⟩
  case round =>
    obtain ⟨k, hk, rfl, hok, hbel⟩ := hrel
    have g0 : wr.cell? ⟨w.heap.size, 0, none⟩ = some (.int .i64 p) := by rw [hbel.cell (by simp)]; simp [go_sem]
    have g1 : wr.cell? ⟨w.heap.size, 1, none⟩ = some (.slice ao n cap) := by rw [hbel.cell (by simp)]; simp [go_sem]
    have hsz : w.heap.size < wr.heap.size := by have := hbel.size; simp at this; omega
    have HOK : Hid (arcsB p F T G k = true) := hok
    clear hok
    by_cases hlt : k < n
    rotate_left
    · have hkn : k = n := by omega
      subst hkn
      go_wp2
      go_ret
      exact ⟨ret_bool (by simp [graphB, hin.out, hn'.out, HOK.out]), unbox hbel (by omega)⟩
    obtain ⟨b, o, hao, c0, c1, c2⟩ := ((hr.alloc _).below hbel (by simp)) k hlt
    subst hao
    rcases Bool.eq_false_or_eq_true (arcB (F k) (T k) (G k) p) with ha | ha
    rotate_left
    · go_wp2_with (go_at_call 18; refine (arcOk_any _ _ _ _ _).mono ?_; rintro e w1 ⟨rfl, hb1⟩)
      go_ret
      exact ⟨ret_bool (by simp [graphB, hin.out, arcsB_no ha n hlt]), unbox ((hbel.alloc (by omega) _).trans (hb1.mono (by simp; omega))) (by omega)⟩
    by_cases h0 : 0 < k
    rotate_left
    · have hd : decide (0 < (k : Int)) = false := by simp; omega
      go_wp2_with (go_at_call 18; refine (arcOk_any _ _ _ _ _).mono ?_; rintro e w1 ⟨rfl, hb1⟩)
      go_quiet (fail)
      go_wp2
      go_roundw
      case rel => exact ⟨k + 1, by omega, by go_num, arcsB_step HOK.out ha (Or.inl (by omega)), below_drewN ((hbel.alloc (by omega) _).trans (hb1.mono (by simp; omega))) _⟩
      case measure => simp [intOf]; omega
    have hbw : b < wr.heap.size := lt_of_cell c0
    obtain ⟨b', o', hao', d0, d1, d2⟩ := ((hr.alloc _).below hbel (by simp)) (k - 1) (by omega)
    simp only [Option.some.injEq, Addr.mk.injEq, and_true] at hao'
    obtain ⟨rfl, rfl⟩ := hao'
    have hk1 : (0 : Int) ≤ (k : Int) - 1 := by omega
    have hk2 : (k : Int) - 1 < (n : Int) := by omega
    have hk3 : IntKind.i64.wrap ((k : Int) - 1) = (k : Int) - 1 := by rw [IntKind.wrap_i64]; omega
    have hk4 : ((k : Int) - 1).toNat = k - 1 := by omega
    have hk5 : (1 : Int) ≤ (k : Int) := by omega
    have hk6 : (k : Int) ≤ (n : Int) := by omega
    have hk7 : 1 ≤ k := by omega
    rcases Bool.eq_false_or_eq_true (upB (F (k - 1)) (T (k - 1)) (F k) (T k)) with hu | hu
    · go_wp2_with (go_at_call 18; refine (arcOk_any _ _ _ _ _).mono ?_; rintro e w1 ⟨rfl, hb1⟩)
      have hbw1 := unbox hb1 (by simp)
      have hA := (hbel.alloc (by omega) _).trans (hb1.mono (by simp; omega))
      have s0 := keep_cell hbw1 (Nat.le_refl _) g1
      have s1 := keep_cell hbw1 (Nat.le_refl _) d0
      have s2 := keep_cell hbw1 (Nat.le_refl _) d1
      have s3 := keep_cell hbw1 (Nat.le_refl _) d2
      have s4 := keep_cell hb1 (Nat.le_refl _) (b := wr.heap.size) (o := 0) (by simp [go_sem]; rfl)
      have s5 := keep_cell hb1 (Nat.le_refl _) (b := wr.heap.size) (o := 1) (by simp [go_sem]; rfl)
      have s6 := keep_cell hb1 (Nat.le_refl _) (b := wr.heap.size) (o := 2) (by simp [go_sem]; rfl)
      go_region_held3 (fun w' => w'.cell? ⟨w.heap.size, 1, none⟩ = some (.slice (some ⟨b, o, none⟩) n cap) ∧ w'.cell? ⟨b, o + (k - 1) * 3, none⟩ = some (.int .i64 (F (k - 1))) ∧ w'.cell? ⟨b, o + (k - 1) * 3 + 1, none⟩ = some (.int .i64 (T (k - 1))) ∧ w'.cell? ⟨b, o + (k - 1) * 3 + 2, none⟩ = some (.int .i64 (G (k - 1))) ∧ w'.cell? ⟨wr.heap.size, 0, none⟩ = some (.int .i64 (F k)) ∧ w'.cell? ⟨wr.heap.size, 1, none⟩ = some (.int .i64 (T k)) ∧ w'.cell? ⟨wr.heap.size, 2, none⟩ = some (.int .i64 (G k)))
        (first | (go_split_ands; refine ⟨?_, ?_, ?_, ?_, ?_, ?_, ?_⟩ <;> exact keep_cell ‹_› (Nat.le_refl _) (by assumption)) | go_keep)
        (first | (go_at_call 19; refine (endsOf_any _ _ _ _).mono ?_; rintro e w2 ⟨rfl, hb2⟩; (first | have hA := below_next hA (by simp) hb2 | have hA := below_next hA.drew (by simp) hb2)) | (go_at_call 20; refine (below_any _ _ _ _ _).mono ?_; rintro e w3 ⟨rfl, hb3⟩; have hA := below_next hA (by simp) hb3))
      go_wp2
      go_roundw
      case rel => exact ⟨k + 1, by omega, by go_num, arcsB_step HOK.out ha (Or.inr hu), hA⟩
      case measure => simp [intOf]; omega
    · go_wp2_with (go_at_call 18; refine (arcOk_any _ _ _ _ _).mono ?_; rintro e w1 ⟨rfl, hb1⟩)
      have hbw1 := unbox hb1 (by simp)
      have hA := (hbel.alloc (by omega) _).trans (hb1.mono (by simp; omega))
      have s0 := keep_cell hbw1 (Nat.le_refl _) g1
      have s1 := keep_cell hbw1 (Nat.le_refl _) d0
      have s2 := keep_cell hbw1 (Nat.le_refl _) d1
      have s3 := keep_cell hbw1 (Nat.le_refl _) d2
      have s4 := keep_cell hb1 (Nat.le_refl _) (b := wr.heap.size) (o := 0) (by simp [go_sem]; rfl)
      have s5 := keep_cell hb1 (Nat.le_refl _) (b := wr.heap.size) (o := 1) (by simp [go_sem]; rfl)
      have s6 := keep_cell hb1 (Nat.le_refl _) (b := wr.heap.size) (o := 2) (by simp [go_sem]; rfl)
      go_region_held3 (fun w' => w'.cell? ⟨w.heap.size, 1, none⟩ = some (.slice (some ⟨b, o, none⟩) n cap) ∧ w'.cell? ⟨b, o + (k - 1) * 3, none⟩ = some (.int .i64 (F (k - 1))) ∧ w'.cell? ⟨b, o + (k - 1) * 3 + 1, none⟩ = some (.int .i64 (T (k - 1))) ∧ w'.cell? ⟨b, o + (k - 1) * 3 + 2, none⟩ = some (.int .i64 (G (k - 1))) ∧ w'.cell? ⟨wr.heap.size, 0, none⟩ = some (.int .i64 (F k)) ∧ w'.cell? ⟨wr.heap.size, 1, none⟩ = some (.int .i64 (T k)) ∧ w'.cell? ⟨wr.heap.size, 2, none⟩ = some (.int .i64 (G k)))
        (first | (go_split_ands; refine ⟨?_, ?_, ?_, ?_, ?_, ?_, ?_⟩ <;> exact keep_cell ‹_› (Nat.le_refl _) (by assumption)) | go_keep)
        (first | (go_at_call 19; refine (endsOf_any _ _ _ _).mono ?_; rintro e w2 ⟨rfl, hb2⟩; (first | have hA := below_next hA (by simp) hb2 | have hA := below_next hA.drew (by simp) hb2)) | (go_at_call 20; refine (below_any _ _ _ _ _).mono ?_; rintro e w3 ⟨rfl, hb3⟩; have hA := below_next hA (by simp) hb3))
      go_wp2
      go_ret
      exact ⟨ret_bool (by simp [graphB, hin.out, arcsB_down h0 hu n hlt]), unbox hA (by omega)⟩

end Go.Proofs.YtcmeppjfjledfaaDoor

/-
  Two boxes of two cells: an argument's and the result's, in a later world.
-/
set_option linter.unusedVariables false
set_option linter.unusedSimpArgs false
namespace Go.Proofs.YtcmeppjfjledfaaDoor
open Go.RowKit Go.Maps
attribute [local go_sem ↓] Go.wp_at_zero Go.wp_at_succ

/-- The boxes of an argument and of a result, each of two cells, in a later world. -/
theorem box22 {w W : World} {a0 a1 c0 c1 : Value} {s t : TypeId} (h : Below (w.heap.size + 2) ((w.alloc (.cells #[a0, a1] s)).alloc (.cells #[c0, c1] t)) W) :
    (W.cell? ⟨w.heap.size, 0, none⟩ = some a0 ∧ W.cell? ⟨w.heap.size, 1, none⟩ = some a1) ∧ (W.cell? ⟨w.heap.size + 1, 0, none⟩ = some c0 ∧ W.cell? ⟨w.heap.size + 1, 1, none⟩ = some c1) ∧ (W.frozen? ⟨w.heap.size + 1, 0, none⟩ = false ∧ W.frozen? ⟨w.heap.size + 1, 1, none⟩ = false) ∧ w.heap.size + 2 ≤ W.heap.size := by
  refine ⟨⟨by rw [h.cell (by simp)]; simp [go_sem], by rw [h.cell (by simp)]; simp [go_sem]⟩, ⟨by rw [h.cell (by simp)]; simp [go_sem], by rw [h.cell (by simp)]; simp [go_sem]⟩, ⟨by rw [h.frozen (by simp)]; simp [go_sem], by rw [h.frozen (by simp)]; simp [go_sem]⟩, by have := h.size; simp at this; omega⟩
theorem unbox2 {w w' : World} {o1 o2 : Obj} {B : Nat} (h : Below B ((w.alloc o1).alloc o2) w') (hB : w.heap.size ≤ B) : Below w.heap.size w w' :=
  (((Below.refl _ _).alloc (Nat.le_refl _) _).alloc (by simp) _).trans (h.mono hB)

/-- What is written into the result's box turns nothing else. -/
theorem ret_block {W : World} {s b : Nat} (a c : Value) (hne : b ≠ s) : ((W.setCell ⟨s, 0, none⟩ a).setCell ⟨s, 1, none⟩ c).heap[b]? = W.heap[b]? :=
  (Below.heap_setCell _ _ _ _ (fun e => hne e)).trans (Below.heap_setCell _ _ _ _ (fun e => hne e))
theorem ret_below {B : Nat} {w W : World} {s : Nat} (h : Below B w W) (hB : B ≤ s) (a c : Value) : Below B w ((W.setCell ⟨s, 0, none⟩ a).setCell ⟨s, 1, none⟩ c) := (h.setCell hB a).setCell hB c

end Go.Proofs.YtcmeppjfjledfaaDoor

/-
  The program's ReadGraph.
-/
set_option linter.unusedVariables false
set_option linter.unusedSimpArgs false
namespace Go.Proofs.YtcmeppjfjledfaaDoor
open Go.RowKit
attribute [local go_sem ↓] Go.wp_at_zero Go.wp_at_succ

def nG (ns : List Int) : Nat := (ns.length - 1) / 3
def triG (ns : List Int) : Nat → Int := ar (at3 ns 1) (at3 ns 2) (at3 ns 3)
def gfin (T : Option (List Int)) : Option (List Int) := match T with | some ns => if graphB (gd ns 0) (nG ns) (at3 ns 1) (at3 ns 2) (at3 ns 3) = true then some ns else none | none => none
/-- A map that is answered, and whether it is one. -/
def GAns (w w' : World) (e : Ending) (r : Option (List Int)) : Prop := match r with
  | some ns => ∃ ao cap, e = .returned (.tuple #[.agg #[.int .i64 (gd ns 0), .slice ao (nG ns) cap], .bool true]) ∧ OwnS w' w.heap.size ao (nG ns) (triG ns)
  | none => e = .returned (.tuple #[.agg #[.int .i64 0, .slice none 0 0], .bool false])
theorem triG0 (ns : List Int) (k : Nat) : triG ns (k * 3) = gd ns (3 * k + 1) := by unfold triG; rw [ar0]; rfl
theorem triG1 (ns : List Int) (k : Nat) : triG ns (k * 3 + 1) = gd ns (3 * k + 1 + 1) := by unfold triG; rw [ar1]; rfl
theorem triG2 (ns : List Int) (k : Nat) : triG ns (k * 3 + 2) = gd ns (3 * k + 1 + 2) := by unfold triG; rw [ar2]; rfl
theorem graph_new (w : World) (v0 v1 : Value) : VHas (w.alloc (.cells #[v0, v1] 26)) w.heap.size 26 2 (c2 v0 v1) := ⟨#[v0, v1], Go.Deep.blk_alloc_new _ _, by simp, fun j hj => by
  have : j = 0 ∨ j = 1 := by omega
  rcases this with rfl | rfl <;> rfl⟩
/-- A box that is written and read again. -/
theorem box_set {W : World} {b : Nat} {v0 v1 : Value} {f : Nat → Value} (h : VHas W b 26 2 f) : ((W.setCell ⟨b, 0, none⟩ v0).setCell ⟨b, 1, none⟩ v1).cell? ⟨b, 0, none⟩ = some v0 ∧ ((W.setCell ⟨b, 0, none⟩ v0).setCell ⟨b, 1, none⟩ v1).cell? ⟨b, 1, none⟩ = some v1 := by
  have h2 := (h.set 0 v0).set 1 v1
  exact ⟨h2.cell (j := 0) (by omega), h2.cell (j := 1) (by omega)⟩
theorem box_below {w W : World} {b : Nat} {v0 v1 : Value} (h : Below w.heap.size w W) (hb : w.heap.size ≤ b) : Below w.heap.size w ((W.setCell ⟨b, 0, none⟩ v0).setCell ⟨b, 1, none⟩ v1) := (h.setCell (p := ⟨b, 0, none⟩) hb v0).setCell (p := ⟨b, 1, none⟩) hb v1
set_option maxHeartbeats 2000000 in
theorem implReadGraph_any (s : ByteArray) (hs : s.size ≤ 1048576) (m : Int) (w : World) (hV : Vars w) (hM : w.cell? ⟨1, 0, none⟩ = some (.int .i64 m)) :
    Calls Tryd.prog 9 #[.string s] w fun e w' => GAns w w' e (gfin (iRead s.data.toList)) ∧ Below w.heap.size w w' := by
  obtain ⟨r, HR⟩ : ∃ r, Hid (r = gfin (iRead s.data.toList)) := ⟨_, rfl⟩
  rw [← HR.out]
  go_enter Tryd.func9, Tryd.ntmps9
  have hba : Below w.heap.size w (w.alloc (.cells #[.int .i64 0, .slice none 0 0] 26)) := (Below.refl _ _).alloc (Nat.le_refl _) _
  have g0 : (w.alloc (.cells #[.int .i64 0, .slice none 0 0] 26)).cell? ⟨w.heap.size, 0, none⟩ = some (.int .i64 0) := by simp [go_sem]
  have g1 : (w.alloc (.cells #[.int .i64 0, .slice none 0 0] 26)).cell? ⟨w.heap.size, 1, none⟩ = some (.slice none 0 0) := by simp [go_sem]
  have gz : ∀ o, (w.alloc (.cells #[.int .i64 0, .slice none 0 0] 26)).frozen? ⟨w.heap.size, o, none⟩ = false := fun o => by simp [go_sem]
  have hVa := hV.below hba
  have hMa := keep_cell hba (Nat.le_refl _) hM
  go_wp2_with fail
  refine (splitN_any s hs m _ hMa).mono ?_
  rintro e w1 ⟨L, g, gc, rfl, HL, hT, hg, hLs, hb1⟩
  replace g0 := keep_cell hb1 (Nat.le_refl _) g0
  replace g1 := keep_cell hb1 (Nat.le_refl _) g1
  have hB1 := below_next hba (Nat.le_refl _) hb1
  have hV1 := hVa.below hb1
  have hIR : Hid (r = gfin (if 301 < L.length ∨ L.length % 3 ≠ 1 then none else allN L)) := by
    show _ = _
    rw [HR.out]
    unfold iRead allN
    simp only [← HL.out, List.length_map, show rdNum = num1 from funext rdNum_is]
  clear HR HL
  obtain ⟨n, hn⟩ : ∃ n, n = L.length := ⟨_, rfl⟩
  rw [← hn]
  have HN : Hid (n = L.length) := hn
  clear hn
  by_cases hbad : 301 < n ∨ n % 3 ≠ 1
  · have HE : Hid (r = none) := by show _ = _; rw [hIR.out, if_pos (by rw [← HN.out]; exact hbad)]; rfl
    clear hIR
    have vR1 : VHas w1 w.heap.size 26 2 (c2 (.int .i64 0) (.slice none 0 0)) := (graph_new w _ _).next hb1
    have rz := fun j => vR1.frozen j
    obtain ⟨q0, q1⟩ := box_set (v0 := .int .i64 0) (v1 := .slice none 0 0) vR1
    rcases Nat.lt_or_ge 301 n with h301 | h301
    · have h1 : (301 : Int) < (n : Int) := by omega
      clear hbad
      go_wp2
      exact bodyPost_ret (v := .tuple #[.agg #[.int .i64 0, .slice none 0 0], .bool false]) (by simp [results, Tryd.results9, go_sem, q0, q1]) rfl ⟨by unfold GAns; rw [HE.out], box_below hB1 (Nat.le_refl _)⟩
    · have h1 : ¬ (301 : Int) < (n : Int) := by omega
      have h3 : ((n : Int) % 3 != 1) = true := by rw [bne_iff_ne]; omega
      clear hbad
      go_wp2
      exact bodyPost_ret (v := .tuple #[.agg #[.int .i64 0, .slice none 0 0], .bool false]) (by simp [results, Tryd.results9, go_sem, q0, q1]) rfl ⟨by unfold GAns; rw [HE.out], box_below hB1 (Nat.le_refl _)⟩
  · have h301 : ¬ (301 : Int) < (n : Int) := by omega
    have hm3 : (n : Int) % 3 = 1 := by omega
    have HB : Hid (n ≤ 301 ∧ n % 3 = 1) := ⟨by omega, by omega⟩
    clear hbad
    go_wp2_with fail
    refine (readNumbers_any g gc L n HN.out (by omega) hLs _ hT hV1).mono ?_
    rintro e w2 ⟨hA, hb2⟩
    replace g0 := keep_cell hb2 (Nat.le_refl _) g0
    replace g1 := keep_cell hb2 (Nat.le_refl _) g1
    have hB2 := below_next hB1 (Nat.le_refl _) hb2
    cases hN : allN L with
    | none =>
      have he : e = .returned (.tuple #[.slice none 0 0, .bool false]) := by unfold LAns at hA; rw [hN] at hA; exact hA
      subst he
      have HE : Hid (r = none) := by show _ = _; rw [hIR.out, if_neg (by rw [← HN.out]; have := HB.out; omega), hN]; rfl
      have vR2 : VHas w2 w.heap.size 26 2 (c2 (.int .i64 0) (.slice none 0 0)) := ((graph_new w _ _).next hb1).next hb2
      have rz := fun j => vR2.frozen j
      obtain ⟨q0, q1⟩ := box_set (v0 := .int .i64 0) (v1 := .slice none 0 0) vR2
      clear hIR hA hm3
      go_wp2
      exact bodyPost_ret (v := .tuple #[.agg #[.int .i64 0, .slice none 0 0], .bool false]) (by simp [results, Tryd.results9, go_sem, q0, q1]) rfl ⟨by unfold GAns; rw [HE.out], box_below hB2 (Nat.le_refl _)⟩
    | some ns =>
      obtain ⟨b, rfl, hbl, hI⟩ : ∃ b, e = .returned (.tuple #[.slice (some ⟨b, 0, none⟩) n n, .bool true]) ∧ w1.heap.size ≤ b ∧ IHas w2 b n (gd ns) := by
        unfold LAns at hA; rw [hN] at hA; rw [HN.out]; exact hA
      have c0 := hI.cell (j := 0) (by have := HB.out; omega)
      have hn0 : (0 : Int) < (n : Int) := by have := HB.out; omega
      have HR : Hid (r = gfin (some ns)) := by show _ = _; rw [hIR.out, if_neg (by rw [← HN.out]; have := HB.out; omega), hN]
      have HL : Hid (ns.length = n) := by show _ = _; unfold allN at hN; rw [mapM_len hN, List.length_map]; exact HN.out.symm
      have vR : VHas w2 w.heap.size 26 2 (c2 (.int .i64 0) (.slice none 0 0)) := ((graph_new w _ _).next hb1).next hb2
      clear hA hIR hN
      go_wp2
      clear hm3 h301 c0 g0 g1
      have hs2 := hB2.size
      have hs1 : w.heap.size + 1 ≤ w1.heap.size := by have := hb1.size; simp at this; omega
      have hs21 := hb2.size
      have hbl2 : b < w2.heap.size := hI.lt
      have hba2 : Below w2.heap.size w2 (w2.alloc (.cells #[.int .i64 (gd ns 0), .slice none 0 0] 26)) := (Below.refl _ _).alloc (Nat.le_refl _) _
      have vG0 := graph_new w2 (.int .i64 (gd ns 0)) (.slice none 0 0)
      have vR0 := vR.next hba2
      have hI0 := hI.below hba2 hI.lt
      have hB0 := below_next hB2 (Nat.le_refl _) hba2
      have hz0 : w2.heap.size + 1 ≤ (w2.alloc (.cells #[.int .i64 (gd ns 0), .slice none 0 0] 26)).heap.size := by simp
      generalize (w2.alloc (.cells #[.int .i64 (gd ns 0), .slice none 0 0] 26)) = X0 at vG0 vR0 hI0 hB0 hz0 ⊢
      clear hI vR hba2
      go_loopw [8] (fun x wr => ∃ (m k gc : Nat) (go : Option Addr), Hid (m = 3 * k + 1) ∧ m ≤ n ∧ x = .int .i64 m ∧ VHas wr w2.heap.size 26 2 (c2 (.int .i64 (gd ns 0)) (.slice go k gc)) ∧ VHas wr w.heap.size 26 2 (c2 (.int .i64 0) (.slice none 0 0)) ∧ OwnA wr (w2.heap.size + 1) go k gc (triG ns) ∧ IHas wr b n (gd ns) ∧ w2.heap.size + 1 ≤ wr.heap.size ∧ Below w.heap.size w wr) (fun x _ => n - (intOf x).toNat)
      case atStart => exact ⟨1, 0, 0, none, rfl, by have := HB.out; omega, rfl, vG0, vR0, OwnA.nil _ _ _, hI0, hz0, hB0⟩
      case round =>
        clear vG0 vR0 hI0 hB0 hz0
        obtain ⟨m, k, gc2, go, HM, hm, rfl, vG, vR, hO, hI, hsz, hB⟩ := hrel
        by_cases hlt : m < n
        · have hlt0 : (m : Int) < (n : Int) := by omega
          have hm2 : m + 2 < n := by have := HM.out; have := HB.out; omega
          have hmM := HM.out
          have hn9 : n ≤ 2000000 := by have := HB.out; omega
          have hk9 : k ≤ 10000000 := by omega
          have e0 : triG ns (k * 3) = gd ns m := by rw [hmM]; exact triG0 ns k
          have e1 : triG ns (k * 3 + 1) = gd ns (m + 1) := by rw [hmM]; exact triG1 ns k
          have e2 : triG ns (k * 3 + 2) = gd ns (m + 2) := by rw [hmM]; exact triG2 ns k
          clear hmM
          go_wp2_with fail
          refine region_arc (bx := 7) (nb := 5) (ix := 8) (q := 39) (bb := w2.heap.size) (rb := w.heap.size) (B := w2.heap.size + 1) (W0 := w) (by kernel_rfl) (Nat.le_of_ble_eq_true rfl) (by omega) (by omega) (by omega) (fun _ _ _ _ _ h => h) rfl rfl rfl hm2 hn9 hI e0 e1 e2 vG vR hO hk9 (by omega) (by omega) (by omega) (by omega) (by omega) hsz hB (by omega) (by omega) ?_
          intro X9 g' gc' z n2 n1 nO nI nz nB
          simp only [afin, Act.put, List.setIfInBounds_toArray, List.set_cons_zero, List.set_cons_succ, Nat.reduceAdd]
          clear vG vR hO hI hsz hB e0 e1 e2
          go_wp2_with fail
          go_roundw
          case rel => exact ⟨m + 3, k + 1, gc', some ⟨g', 0, none⟩, by show _ = _; have := HM.out; omega, by omega, by go_num, n2, n1, nO, nI, nz, nB⟩
          case measure => simp [intOf]; omega
        · have hlt0 : ¬ (m : Int) < (n : Int) := by omega
          have hmn : m = n := by omega
          have hnG : nG ns = k := by unfold nG; rw [HL.out]; have := HM.out; omega
          have HK : Hid (nG ns = k) := hnG
          clear hnG
          have s0 : wr.cell? ⟨w2.heap.size, 0, none⟩ = some (.int .i64 (gd ns 0)) := vG.cell (j := 0) (by omega)
          have s1 : wr.cell? ⟨w2.heap.size, 1, none⟩ = some (.slice go k gc2) := vG.cell (j := 1) (by omega)
          have hk9 : k ≤ 1048576 := by have := HM.out; have := HB.out; omega
          go_wp2_with fail
          refine (implGraphOk_any (gd ns 0) go k gc2 (at3 ns 1) (at3 ns 2) (at3 ns 3) hk9 _ (hO.owns.row)).mono ?_
          rintro e w3 ⟨rfl, hb3⟩
          replace s0 := keep_cell hb3 (Nat.le_refl _) s0
          replace s1 := keep_cell hb3 (Nat.le_refl _) s1
          replace vR := vR.next hb3
          have hOS := (hO.next hb3).owns
          have hB3 := below_next hB (Nat.le_refl _) hb3
          have rz := fun j => vR.frozen j
          have r0 := vR.cell (j := 0) (by omega)
          have r1 := vR.cell (j := 1) (by omega)
          cases hok : graphB (gd ns 0) k (at3 ns 1) (at3 ns 2) (at3 ns 3)
          · have HE : Hid (r = none) := by show _ = _; rw [HR.out]; unfold gfin; simp only; rw [HK.out, hok]; rfl
            obtain ⟨q0, q1⟩ := box_set (v0 := .int .i64 0) (v1 := .slice none 0 0) vR
            clear HR
            go_wp2
            exact bodyPost_ret (v := .tuple #[.agg #[.int .i64 0, .slice none 0 0], .bool false]) (by simp [results, Tryd.results9, go_sem, q0, q1]) rfl ⟨by unfold GAns; rw [HE.out], box_below hB3 (Nat.le_refl _)⟩
          · have HE : Hid (r = some ns) := by show _ = _; rw [HR.out]; unfold gfin; simp only; rw [HK.out, hok]; rfl
            obtain ⟨q0, q1⟩ := box_set (v0 := .int .i64 (gd ns 0)) (v1 := .slice go k gc2) vR
            have hOF : OwnS ((w3.setCell ⟨w.heap.size, 0, none⟩ (.int .i64 (gd ns 0))).setCell ⟨w.heap.size, 1, none⟩ (.slice go k gc2)) w.heap.size go k (triG ns) := fun j hj => by
              obtain ⟨b', e1, e2, e3⟩ := hOS j hj
              exact ⟨b', e1, by omega, e3.of_block (ret_block _ _ (by omega))⟩
            clear HR
            go_wp2
            exact bodyPost_ret (v := .tuple #[.agg #[.int .i64 (gd ns 0), .slice go k gc2], .bool true]) (by simp [results, Tryd.results9, go_sem, q0, q1]) rfl ⟨by unfold GAns; rw [HE.out]; simp only; rw [HK.out]; exact ⟨_, _, rfl, hOF⟩, box_below hB3 (Nat.le_refl _)⟩
end Go.Proofs.YtcmeppjfjledfaaDoor

/-
  The document's ReadGraph.
-/
set_option linter.unusedVariables false
set_option linter.unusedSimpArgs false
namespace Go.Proofs.YtcmeppjfjledfaaDoor
open Go.RowKit
attribute [local go_sem ↓] Go.wp_at_zero Go.wp_at_succ
set_option maxHeartbeats 2000000 in
theorem specReadGraph_any (s : ByteArray) (hs : s.size ≤ 1048576) (w : World) :
    Calls Tryd.prog 12 #[.string s] w fun e w' => GAns w w' e (gfin (sRead s.data.toList)) ∧ Below w.heap.size w w' := by
  obtain ⟨r, HR⟩ : ∃ r, Hid (r = gfin (sRead s.data.toList)) := ⟨_, rfl⟩
  rw [← HR.out]
  obtain ⟨T, hT⟩ : ∃ T, Hid (snums s.data.toList [] [] = T) := ⟨_, rfl⟩
  go_enter Tryd.func12, Tryd.ntmps12
  have hba : Below w.heap.size w (w.alloc (.cells #[.int .i64 0, .slice none 0 0] 26)) := (Below.refl _ _).alloc (Nat.le_refl _) _
  go_wp2_with fail
  refine (l1Numbers_any s hs _).mono ?_
  rintro e w1 ⟨ns, ok, b, cap, rfl, hor, hlen, hown, hb1⟩
  have vR1 : VHas w1 w.heap.size 26 2 (c2 (.int .i64 0) (.slice none 0 0)) := (graph_new w _ _).next hb1
  have hB1 := below_next hba (Nat.le_refl _) hb1
  have rz := fun j => vR1.frozen j
  have r0 : w1.cell? ⟨w.heap.size, 0, none⟩ = some (.int .i64 0) := vR1.cell (j := 0) (by omega)
  have r1 : w1.cell? ⟨w.heap.size, 1, none⟩ = some (.slice none 0 0) := vR1.cell (j := 1) (by omega)
  obtain ⟨q0, q1⟩ := box_set (v0 := .int .i64 0) (v1 := .slice none 0 0) vR1
  obtain ⟨n, hn⟩ : ∃ n, n = ns.length := ⟨_, rfl⟩
  rw [← hn] at hlen hown ⊢
  have HL : Hid (ns.length = n) := hn.symm
  clear hn
  rcases hor with ⟨rfl, hT1⟩ | ⟨rfl, hT1⟩
  · have HR1 : Hid (r = gfin (if n % 3 ≠ 1 then none else some ns)) := by
      show _ = _
      rw [HR.out]
      unfold sRead
      rw [hT1]
      simp only
      rw [HL.out]
    clear HR hT hT1
    by_cases h3 : (n : Int) % 3 = 1
    · have hI : IHas w1 b n (gd ns) := hown.has
      have HB : Hid (n % 3 = 1) := by show _ = _; omega
      have c0 := hI.cell (j := 0) (by omega)
      have hn0 : (0 : Int) < (n : Int) := by omega
      go_wp2
      clear h3 c0 r0 r1 rz q0 q1
      have HR : Hid (r = gfin (some ns)) := by show _ = _; rw [HR1.out, if_neg (by have := HB.out; omega)]
      have hs2 := hB1.size
      have hs1 : w.heap.size + 1 ≤ w1.heap.size := by have := hb1.size; simp at this; omega
      have hbl0 : w.heap.size + 1 ≤ b := by have := hown.base; simp at this; omega
      have hbl2 : b < w1.heap.size := hI.lt
      have hba2 : Below w1.heap.size w1 (w1.alloc (.cells #[.int .i64 (gd ns 0), .slice none 0 0] 26)) := (Below.refl _ _).alloc (Nat.le_refl _) _
      have vG0 := graph_new w1 (.int .i64 (gd ns 0)) (.slice none 0 0)
      have vR0 := vR1.next hba2
      have hI0 := hI.below hba2 hI.lt
      have hB0 := below_next hB1 (Nat.le_refl _) hba2
      have hz0 : w1.heap.size + 1 ≤ (w1.alloc (.cells #[.int .i64 (gd ns 0), .slice none 0 0] 26)).heap.size := by simp
      generalize (w1.alloc (.cells #[.int .i64 (gd ns 0), .slice none 0 0] 26)) = X0 at vG0 vR0 hI0 hB0 hz0 ⊢
      clear hI vR1 hba2 HR1 hown
      go_loopw [7] (fun x wr => ∃ (m k gc : Nat) (go : Option Addr), Hid (m = 3 * k + 1) ∧ m ≤ n ∧ x = .int .i64 m ∧ VHas wr w1.heap.size 26 2 (c2 (.int .i64 (gd ns 0)) (.slice go k gc)) ∧ VHas wr w.heap.size 26 2 (c2 (.int .i64 0) (.slice none 0 0)) ∧ OwnA wr (w1.heap.size + 1) go k gc (triG ns) ∧ IHas wr b n (gd ns) ∧ w1.heap.size + 1 ≤ wr.heap.size ∧ Below w.heap.size w wr) (fun x _ => n - (intOf x).toNat)
      case atStart => exact ⟨1, 0, 0, none, rfl, by have := HB.out; omega, rfl, vG0, vR0, OwnA.nil _ _ _, hI0, hz0, hB0⟩
      case round =>
        clear vG0 vR0 hI0 hB0 hz0
        obtain ⟨m, k, gc2, go, HM, hm, rfl, vG, vR, hO, hI, hsz, hB⟩ := hrel
        by_cases hlt : m < n
        · have hlt0 : (m : Int) < (n : Int) := by omega
          have hm2 : m + 2 < n := by have := HM.out; have := HB.out; omega
          have hmM := HM.out
          have hn9 : n ≤ 2000000 := by omega
          have hk9 : k ≤ 10000000 := by omega
          have e0 : triG ns (k * 3) = gd ns m := by rw [hmM]; exact triG0 ns k
          have e1 : triG ns (k * 3 + 1) = gd ns (m + 1) := by rw [hmM]; exact triG1 ns k
          have e2 : triG ns (k * 3 + 2) = gd ns (m + 2) := by rw [hmM]; exact triG2 ns k
          clear hmM
          go_wp2_with fail
          refine region_arc (bx := 6) (nb := 4) (ix := 7) (q := 32) (bb := w1.heap.size) (rb := w.heap.size) (B := w1.heap.size + 1) (W0 := w) (by kernel_rfl) (Nat.le_of_ble_eq_true rfl) (by omega) (by omega) (by omega) (fun _ _ _ _ _ h => h) rfl rfl rfl hm2 hn9 hI e0 e1 e2 vG vR hO hk9 (by omega) (by omega) (by omega) (by omega) (by omega) hsz hB (by omega) (by omega) ?_
          intro X9 g' gc' z n2 n1 nO nI nz nB
          simp only [afin, Act.put, List.setIfInBounds_toArray, List.set_cons_zero, List.set_cons_succ, Nat.reduceAdd]
          clear vG vR hO hI hsz hB e0 e1 e2
          go_wp2_with fail
          go_roundw
          case rel => exact ⟨m + 3, k + 1, gc', some ⟨g', 0, none⟩, by show _ = _; have := HM.out; omega, by omega, by go_num, n2, n1, nO, nI, nz, nB⟩
          case measure => simp [intOf]; omega
        · have hlt0 : ¬ (m : Int) < (n : Int) := by omega
          have hmn : m = n := by omega
          have hnG : nG ns = k := by unfold nG; rw [HL.out]; have := HM.out; omega
          have HK : Hid (nG ns = k) := hnG
          clear hnG
          have s0 : wr.cell? ⟨w1.heap.size, 0, none⟩ = some (.int .i64 (gd ns 0)) := vG.cell (j := 0) (by omega)
          have s1 : wr.cell? ⟨w1.heap.size, 1, none⟩ = some (.slice go k gc2) := vG.cell (j := 1) (by omega)
          have hk9 : k ≤ 1048576 := by have := HM.out; omega
          go_wp2_with fail
          refine (specGraphOk_any (gd ns 0) go k gc2 (at3 ns 1) (at3 ns 2) (at3 ns 3) hk9 _ (hO.owns.row)).mono ?_
          rintro e w3 ⟨rfl, hb3⟩
          replace s0 := keep_cell hb3 (Nat.le_refl _) s0
          replace s1 := keep_cell hb3 (Nat.le_refl _) s1
          replace vR := vR.next hb3
          have hOS := (hO.next hb3).owns
          have hB3 := below_next hB (Nat.le_refl _) hb3
          have rz := fun j => vR.frozen j
          have r0 := vR.cell (j := 0) (by omega)
          have r1 := vR.cell (j := 1) (by omega)
          cases hok : graphB (gd ns 0) k (at3 ns 1) (at3 ns 2) (at3 ns 3)
          · have HE : Hid (r = none) := by show _ = _; rw [HR.out]; unfold gfin; simp only; rw [HK.out, hok]; rfl
            obtain ⟨q0, q1⟩ := box_set (v0 := .int .i64 0) (v1 := .slice none 0 0) vR
            clear HR
            go_wp2
            exact bodyPost_ret (v := .tuple #[.agg #[.int .i64 0, .slice none 0 0], .bool false]) (by simp [results, Tryd.results12, go_sem, q0, q1]) rfl ⟨by unfold GAns; rw [HE.out], box_below hB3 (Nat.le_refl _)⟩
          · have HE : Hid (r = some ns) := by show _ = _; rw [HR.out]; unfold gfin; simp only; rw [HK.out, hok]; rfl
            obtain ⟨q0, q1⟩ := box_set (v0 := .int .i64 (gd ns 0)) (v1 := .slice go k gc2) vR
            have hOF : OwnS ((w3.setCell ⟨w.heap.size, 0, none⟩ (.int .i64 (gd ns 0))).setCell ⟨w.heap.size, 1, none⟩ (.slice go k gc2)) w.heap.size go k (triG ns) := fun j hj => by
              obtain ⟨b', e1, e2, e3⟩ := hOS j hj
              exact ⟨b', e1, by omega, e3.of_block (ret_block _ _ (by omega))⟩
            clear HR
            go_wp2
            exact bodyPost_ret (v := .tuple #[.agg #[.int .i64 (gd ns 0), .slice go k gc2], .bool true]) (by simp [results, Tryd.results12, go_sem, q0, q1]) rfl ⟨by unfold GAns; rw [HE.out]; simp only; rw [HK.out]; exact ⟨_, _, rfl, hOF⟩, box_below hB3 (Nat.le_refl _)⟩
    · have HE : Hid (r = none) := by show _ = _; rw [HR1.out, if_pos (by omega)]; rfl
      have h3' : ((n : Int) % 3 != 1) = true := by rw [bne_iff_ne]; exact h3
      clear h3 HR1
      go_wp2
      exact bodyPost_ret (v := .tuple #[.agg #[.int .i64 0, .slice none 0 0], .bool false]) (by simp [results, Tryd.results12, go_sem, q0, q1]) rfl ⟨by unfold GAns; rw [HE.out], box_below hB1 (Nat.le_refl _)⟩
  · have HE : Hid (r = none) := by show _ = _; rw [HR.out]; unfold sRead; rw [hT1]; rfl
    clear HR hT hT1
    go_wp2
    exact bodyPost_ret (v := .tuple #[.agg #[.int .i64 0, .slice none 0 0], .bool false]) (by simp [results, Tryd.results12, go_sem, q0, q1]) rfl ⟨by unfold GAns; rw [HE.out], box_below hB1 (Nat.le_refl _)⟩
end Go.Proofs.YtcmeppjfjledfaaDoor

/-
  What a map that is as told says of its arcs: the plain part.
-/
set_option linter.unusedVariables false
set_option linter.unusedSimpArgs false
namespace Go.Proofs.YtcmeppjfjledfaaDoor
open Go.RowKit Go.Maps

theorem graphB_arcs {p : Int} {n : Nat} {F T G : Nat → Int} (h : graphB p n F T G = true) : n ≤ 100 ∧ arcsB p F T G n = true := by
  simp [graphB] at h; exact ⟨h.2.1, h.2.2⟩
theorem arcsB_each {p : Int} {F T G : Nat → Int} : ∀ n, arcsB p F T G n = true → ∀ k, k < n → arcB (F k) (T k) (G k) p = true ∧ (0 < k → upB (F (k - 1)) (T (k - 1)) (F k) (T k) = true)
  | 0, _, k, hk => by omega
  | n + 1, h, k, hk => by
    simp [arcsB] at h
    by_cases e : k = n
    · subst e; exact ⟨h.2.1, fun h0 => by rcases h.2.2 with h' | h'; omega; exact h'⟩
    · exact arcsB_each n h.1 k (by omega)
theorem upB_iff {f t f' t' : Int} : upB f t f' t' = true ↔ f < f' ∨ (f = f' ∧ t < t') := by simp [upB]
theorem rising {p : Int} {F T G : Nat → Int} {n : Nat} (h : arcsB p F T G n = true) (i : Nat) : ∀ j, i < j → j < n → F i < F j ∨ (F i = F j ∧ T i < T j)
  | 0, hi, _ => by omega
  | j + 1, hi, hj => by
    have hu := upB_iff.1 ((arcsB_each n h (j + 1) hj).2 (by omega))
    simp at hu
    by_cases e : i = j
    · subst e; exact hu
    · have := rising h i j (by omega) (by omega); omega
theorem unique {p : Int} {F T G : Nat → Int} {n : Nat} (h : arcsB p F T G n = true) {i j : Nat} (hi : i < n) (hj : j < n) (hF : F i = F j) (hT : T i = T j) : i = j := by
  rcases Nat.lt_trichotomy i j with hlt | e | hlt
  · have := rising h i j hlt hj; omega
  · exact e
  · have := rising h j i hlt hi; omega
theorem graphB_p {p : Int} {n : Nat} {F T G : Nat → Int} (h : graphB p n F T G = true) : inB p 1 24 = true := by
  simp [graphB] at h; exact h.1
theorem ret_i64 {a b : Int} (h : a = b) : Ending.returned (.int .i64 a) = .returned (.int .i64 b) := by rw [h]

end Go.Proofs.YtcmeppjfjledfaaDoor

/-
  What both read of a map's text, in one form.
-/
set_option linter.unusedVariables false
set_option linter.unusedSimpArgs false
namespace Go.Proofs.YtcmeppjfjledfaaDoor
open Go.RowKit Go.Deep

/-- The arcs of an answer lie in a block between lo and hi, if there are any. -/
def ARs (V : World) (ao : Option Addr) (n lo hi : Nat) (f : Nat → Int) : Prop := 0 < n → ∃ d, ao = some ⟨d, 0, none⟩ ∧ lo ≤ d ∧ d < hi ∧ Has V d n f
theorem ARs.of {V : World} {ao : Option Addr} {n B : Nat} {f : Nat → Int} (h : OwnS V B ao n f) : ARs V ao n B V.heap.size f := fun hn => by
  obtain ⟨d, e, hB, hh⟩ := h 0 hn
  exact ⟨d, e, hB, hh.lt, hh⟩
theorem ARs.next {V V' : World} {ao : Option Addr} {n lo hi : Nat} {f : Nat → Int} (h : ARs V ao n lo hi f) (hb : Below V.heap.size V V') : ARs V' ao n lo hi f := fun hn => by
  obtain ⟨d, e, h1, h2, hh⟩ := h hn
  exact ⟨d, e, h1, h2, hh.below hb hh.lt⟩
theorem ARs.grown {V V' : World} {ao : Option Addr} {n lo hi x : Nat} {f : Nat → Int} (h : ARs V ao n lo hi f) (hg : V.grownBy V' (some x)) (hx : ∀ d, lo ≤ d → d < hi → d ≠ x) : ARs V' ao n lo hi f := fun hn => by
  obtain ⟨d, e, h1, h2, hh⟩ := h hn
  exact ⟨d, e, h1, h2, hh.grown hg (by simp; exact hx d h1 h2)⟩
theorem ARs.row {V : World} {ao : Option Addr} {n lo hi : Nat} {F T G : Nat → Int} (h : ARs V ao n lo hi (ar F T G)) : Row V ao n F T G := fun k hk => by
  obtain ⟨d, e, h1, h2, hh⟩ := h (by omega)
  rw [e]
  exact hh.row k hk
theorem gfin_same (l : List UInt8) : gfin (iRead l) = gfin (sRead l) := by
  rw [gread_same]
  cases h : sRead l with
  | none => rfl
  | some ns =>
    by_cases h1 : 301 < ns.length
    · simp only [h1, if_true]
      have h3 : ns.length % 3 = 1 := by
        unfold sRead at h
        split at h
        · split at h
          · cases h
          · next hh => injection h with h; subst h; omega
        · cases h
      unfold gfin
      simp only
      rw [if_neg]
      intro c
      have := (graphB_arcs c).1
      unfold nG at this
      omega
    · simp only [h1, if_false]
/-- The numbers of the map that is read, none where there is none. -/
def gRes (s : ByteArray) : List Int := (gfin (sRead s.data.toList)).getD []
theorem gres_le (s : ByteArray) : nG (gRes s) ≤ 100 := by
  unfold gRes
  cases h : gfin (sRead s.data.toList) with
  | none => simp [nG]
  | some ns =>
    unfold gfin at h
    split at h
    · split at h
      · next hh => injection h with h; subst h; exact (graphB_arcs hh).1
      · cases h
    · cases h
theorem GAns.ex {w w' : World} {e : Ending} {r : Option (List Int)} (h : GAns w w' e r) (hb : Below w.heap.size w w') : ∃ ao cap, e = .returned (.tuple #[.agg #[.int .i64 (gd (r.getD []) 0), .slice ao (nG (r.getD [])) cap], .bool r.isSome]) ∧ OwnS w' w.heap.size ao (nG (r.getD [])) (ar (at3 (r.getD []) 1) (at3 (r.getD []) 2) (at3 (r.getD []) 3)) ∧ Below w.heap.size w w' := by
  cases r with
  | some ns => obtain ⟨ao, cap, e1, e2⟩ := h; exact ⟨ao, cap, e1, e2, hb⟩
  | none => exact ⟨none, 0, h, owns_none _ _ _ _, hb⟩

end Go.Proofs.YtcmeppjfjledfaaDoor

/-
  Words and the text that they make, plainly: each is the other's.
-/
set_option linter.unusedVariables false
set_option linter.unusedSimpArgs false
namespace Go.Proofs.YtcmeppjfjledfaaDoor
open Go.Lib (itoa)

/-- Words, with one blank between. -/
def joinW : List (List UInt8) → List UInt8
  | [] => []
  | [a] => a
  | a :: b :: r => a ++ 32 :: joinW (b :: r)
theorem join_cons {a : List UInt8} {r : List (List UInt8)} (h : r ≠ []) : joinW (a :: r) = a ++ 32 :: joinW r := by
  cases r with
  | nil => exact absurd rfl h
  | cons b t => rfl
theorem join_head (c : UInt8) {L : List (List UInt8)} (h : L ≠ []) : joinW (onHead c L) = c :: joinW L := by
  cases L with
  | nil => exact absurd rfl h
  | cons a r =>
    cases r with
    | nil => rfl
    | cons b t => rfl
/-- A text is what its words make. -/
theorem join_gws : ∀ l : List UInt8, joinW (gws l) = l
  | [] => rfl
  | c :: t => by
    unfold gws
    split
    · next h => rw [join_cons (gws_ne t), join_gws t, h]; rfl
    · rw [join_head c (gws_ne t), join_gws t]
/-- A word that holds no blank goes ahead of the first word. -/
theorem gws_app : ∀ (a l : List UInt8), (∀ c ∈ a, c ≠ 32) → gws (a ++ l) = onFirst a (gws l)
  | [], l, _ => (onFirst_nil _).symm
  | c :: t, l, h => by
    have hc : c ≠ 32 := h c (by simp)
    show gws (c :: (t ++ l)) = _
    rw [gws, if_neg hc, gws_app t l (fun x hx => h x (by simp [hx]))]
    cases hl : gws l with
    | nil => exact absurd hl (gws_ne l)
    | cons a r => rfl
/-- The words of what words make are those words. -/
theorem gws_join : ∀ (L : List (List UInt8)), L ≠ [] → (∀ a ∈ L, ∀ c ∈ a, c ≠ 32) → gws (joinW L) = L
  | [], h, _ => absurd rfl h
  | [a], _, h => by
    have := gws_app a [] (h a (by simp))
    simp [gws, onFirst] at this
    exact this
  | a :: b :: r, _, h => by
    rw [join_cons (by simp), gws_app a _ (h a (by simp))]
    have ih := gws_join (b :: r) (by simp) (fun x hx => h x (by simp [hx]))
    rw [gws, if_pos rfl, ih]
    simp [onFirst]
/-- No blank in a number's text. -/
theorem itoa_blank (v : Int) : ∀ c ∈ itoa v, c ≠ 32 := by
  intro c hc
  have hd : ∀ (u : Nat), ∀ c ∈ Lib.decDigits u, c ≠ 32 := fun u c hc => (isD_ne (List.all_eq_true.1 (dec_all u).1 c hc)).1
  by_cases hv : v < 0
  · obtain ⟨u, rfl⟩ : ∃ u : Nat, v = -(u : Int) := ⟨v.natAbs, by omega⟩
    rw [Lib.itoa_neg u (by omega)] at hc
    rcases List.mem_cons.1 hc with rfl | hc
    · decide
    · exact hd u c hc
  · obtain ⟨u, rfl⟩ : ∃ u : Nat, v = (u : Int) := ⟨v.toNat, by omega⟩
    rw [Lib.itoa_nonneg] at hc
    exact hd u c hc
theorem mapM_itoa : ∀ (ns : List Int), (∀ v ∈ ns, -999999999 ≤ v ∧ v ≤ 999999999) → (ns.map itoa).mapM num1 = some ns
  | [], _ => rfl
  | v :: r, h => by
    simp only [List.map_cons, List.mapM_cons, num1_itoa (h v (by simp)).1 (h v (by simp)).2, mapM_itoa r (fun x hx => h x (by simp [hx]))]
    rfl
theorem itoa_mapM : ∀ (L : List (List UInt8)) (ns : List Int), L.mapM num1 = some ns → ns.map itoa = L
  | [], ns, h => by simp at h; subst h; rfl
  | a :: r, ns, h => by
    simp only [List.mapM_cons] at h
    cases ha : num1 a with
    | none => rw [ha] at h; cases h
    | some n =>
      cases hr : r.mapM num1 with
      | none => rw [ha, hr] at h; cases h
      | some m =>
        rw [ha, hr] at h
        simp at h
        subst h
        rw [List.map_cons, itoa_mapM r m hr, (itoa_num1 ha).1]
/-- Numbers that are shown are read as themselves. -/
theorem snums_show {ns : List Int} (h0 : ns ≠ []) (h : ∀ v ∈ ns, -999999999 ≤ v ∧ v ≤ 999999999) : snums (joinW (ns.map itoa)) [] [] = some ns := by
  rw [snums_words, onFirst_nil, gws_join _ (by simpa using h0) (fun a ha => by obtain ⟨v, _, rfl⟩ := List.mem_map.1 ha; exact itoa_blank v), mapM_itoa ns h]
  rfl
/-- A text whose numbers are read is what those numbers are shown as. -/
theorem show_snums {l : List UInt8} {ns : List Int} (h : snums l [] [] = some ns) : joinW (ns.map itoa) = l := by
  rw [snums_words, onFirst_nil] at h
  cases hm : (gws l).mapM num1 with
  | none => rw [hm] at h; cases h
  | some m =>
    rw [hm] at h
    simp at h
    subst h
    rw [itoa_mapM _ _ hm, join_gws]

end Go.Proofs.YtcmeppjfjledfaaDoor
