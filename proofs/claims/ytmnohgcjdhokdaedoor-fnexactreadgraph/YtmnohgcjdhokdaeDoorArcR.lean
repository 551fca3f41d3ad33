/-
  The region that appends an arc out of three numbers to a map's arcs, of a frame that is a letter. Written by tools/mkarcr.py.
-/
import Derived.Test.YtmnohgcjdhokdaeDoorSteps
import Derived.Test.YtmnohgcjdhokdaeDoorArcL
import Derived.Test.YtmnohgcjdhokdaeDoorInts
set_option linter.unusedVariables false
set_option linter.unusedSimpArgs false
namespace Go.Proofs.YtmnohgcjdhokdaeDoor
open Go.RowKit

set_option maxRecDepth 100000

theorem act_ext' {a b : Act} (hd : a.defers = b.defers) (hs : a.tmps.size = b.tmps.size) (h : ∀ j, j < a.tmps.size → a.eval (.tmp j) = b.eval (.tmp j)) : a = b := by
  obtain ⟨x, d⟩ := a
  obtain ⟨y, e⟩ := b
  simp only at hd hs h
  subst hd
  congr 1
  refine Array.ext hs fun i h1 h2 => ?_
  have := h i h1
  simpa [Act.eval, Array.getD, h1, h2] using this
theorem putS {a : Act} {i : Nat} {v : Value} (h : i < a.tmps.size) : (a.put (some i) v).eval (.tmp i) = v := by simp [Act.put, Act.eval, Array.getD, h]
theorem putN {a : Act} {i j : Nat} {v : Value} (h : j ≠ i) : (a.put (some i) v).eval (.tmp j) = a.eval (.tmp j) := by
  by_cases hj : j < a.tmps.size
  · simp [Act.put, Act.eval, Array.getD, hj, Array.getElem_setIfInBounds, Ne.symm h]
  · simp [Act.put, Act.eval, Array.getD, hj]
theorem putZ {a : Act} {i : Nat} {v : Value} : (a.put (some i) v).tmps.size = a.tmps.size := by simp [Act.put]
theorem putD {a : Act} {i : Option Tmp} {v : Value} : (a.put i v).defers = a.defers := by cases i <;> rfl
theorem putO {x A : Act} {i j : Nat} {v : Value} (hi : i < A.tmps.size) (h1 : j = i → x.eval (.tmp j) = v) (h2 : j ≠ i → x.eval (.tmp j) = A.eval (.tmp j)) : x.eval (.tmp j) = (A.put (some i) v).eval (.tmp j) := by
  by_cases c : j = i
  · rw [h1 c, c]
    exact (putS hi).symm
  · exact (h2 c).trans (putN c).symm
section
variable {ev : Operand → Value} {d : Option Tmp} {t : TypeId} {pos : String} {aft : Array Edge} {w : World}
theorem ru_field {x : Operand} {b : Nat} (he : ev x = .pointer (some ⟨b, 0, none⟩)) : (execOp ev { dst := d, op := .fieldAddr 29 x 1, type := t, pos := pos, after := aft, guard := none }).run Tryd.prog w = .ok (.value (.pointer (some ⟨b, 1, none⟩))) w := by
  simp [go_sem, he]
theorem ru_loadA {x : Operand} {b : Nat} {v : Value} (he : ev x = .pointer (some ⟨b, 1, none⟩)) (c : w.cell? ⟨b, 1, none⟩ = some v) : (execOp ev { dst := d, op := .load 27 x, type := t, pos := pos, after := aft, guard := none }).run Tryd.prog w = .ok (.value v) w := by
  simp [go_sem, he, c]
theorem ru_loadI {x : Operand} {b j : Nat} {v : Value} (he : ev x = .pointer (some ⟨b, j, none⟩)) (c : w.cell? ⟨b, j, none⟩ = some v) : (execOp ev { dst := d, op := .load 2 x, type := t, pos := pos, after := aft, guard := none }).run Tryd.prog w = .ok (.value v) w := by
  simp [go_sem, he, c]
theorem ru_move {x : Operand} {v : Value} (he : ev x = v) : (execOp ev { dst := d, op := .move x, type := t, pos := pos, after := aft, guard := none }).run Tryd.prog w = .ok (.value v) w := by
  simp [go_sem, he]
theorem ru_index {x y : Operand} {b n c m : Nat} {i : Int} (he : ev x = .slice (some ⟨b, 0, none⟩) n c) (hi : ev y = .int .i64 i) (hm : i = (m : Int)) (hn : m < n) : (execOp ev { dst := d, op := .indexAddr 46 x y, type := t, pos := pos, after := aft, guard := none }).run Tryd.prog w = .ok (.value (.pointer (some ⟨b, m, none⟩))) w := by
  subst hm
  have h0 : (0 : Int) ≤ (m : Int) := by omega
  have h1 : (m : Int) < (n : Int) := by omega
  simp [go_sem, he, hi, h0, h1, hn]
theorem ru_add {x : Operand} {i k : Int} (hc : ev (.const (.int .i64 k)) = .int .i64 k) (he : ev x = .int .i64 i) (h0 : 0 ≤ i) (h1 : i ≤ 1000000000) (h2 : 0 ≤ k) (h3 : k ≤ 2) : (execOp ev { dst := d, op := .binOp .add 3 x (.const (.int .i64 k)) 3, type := t, pos := pos, after := aft, guard := none }).run Tryd.prog w = .ok (.value (.int .i64 (i + k))) w := by
  have hw : IntKind.i64.wrap (i + k) = i + k := by rw [IntKind.wrap_i64]; omega
  simp [go_sem, he, hw, hc]
theorem ru_build {x y z : Operand} {v0 v1 v2 : Int} (h0 : ev x = .int .i64 v0) (h1 : ev y = .int .i64 v1) (h2 : ev z = .int .i64 v2) : (execOp ev { dst := d, op := .build 43 #[(0, x), (1, y), (2, z)], type := t, pos := pos, after := aft, guard := none }).run Tryd.prog w = .ok (.value (.agg #[.int .i64 v0, .int .i64 v1, .int .i64 v2])) w := by
  simp [go_sem, h0, h1, h2]
theorem ru_slice {x : Operand} {v0 v1 v2 : Int} (h0 : ev x = .agg #[.int .i64 v0, .int .i64 v1, .int .i64 v2]) : (execOp ev { dst := d, op := .buildSlice 27 1 #[(0, x)], type := t, pos := pos, after := aft, guard := none }).run Tryd.prog w = .ok (.value (.slice (some ⟨w.heap.size, 0, none⟩) 1 1)) (w.alloc (.cells #[.int .i64 v0, .int .i64 v1, .int .i64 v2] 43)) := by
  simp [go_sem, h0]
theorem ru_store {x y : Operand} {b : Nat} {u : Value} {go : Option Addr} {n c : Nat} (hx : ev x = .pointer (some ⟨b, 1, none⟩)) (hy : ev y = .slice go n c) (c0 : w.cell? ⟨b, 1, none⟩ = some u) (hz : w.frozen? ⟨b, 1, none⟩ = false) : (execOp ev { dst := d, op := .store 27 x y, type := t, pos := pos, after := aft, guard := none }).run Tryd.prog w = .ok .skip (w.setCell ⟨b, 1, none⟩ (.slice go n c)) := by
  simp [go_sem, hx, hy, c0, hz]
end
def aops (bx nb ix q : Nat) (pos : String) : Array Oper := #[
  { dst := some q, op := Op.fieldAddr 29 (Operand.tmp bx) 1, type := 0, pos := pos, after := #[], guard := none },
  { dst := some (q + 1), op := Op.load 27 (Operand.tmp q), type := 27, pos := pos, after := #[{ on := 0, ground := Ground.data }], guard := none },
  { dst := some (q + 2), op := Op.move (Operand.tmp nb), type := 46, pos := pos, after := #[], guard := none },
  { dst := some (q + 3), op := Op.move (Operand.tmp ix), type := 3, pos := pos, after := #[], guard := none },
  { dst := some (q + 4), op := Op.indexAddr 46 (Operand.tmp (q + 2)) (Operand.tmp (q + 3)), type := 0, pos := pos, after := #[{ on := 2, ground := Ground.data }, { on := 3, ground := Ground.data }], guard := none },
  { dst := some (q + 5), op := Op.load 2 (Operand.tmp (q + 4)), type := 2, pos := pos, after := #[{ on := 4, ground := Ground.data }], guard := none },
  { dst := some (q + 6), op := Op.move (Operand.tmp nb), type := 46, pos := pos, after := #[], guard := none },
  { dst := some (q + 7), op := Op.move (Operand.tmp ix), type := 3, pos := pos, after := #[], guard := none },
  { dst := some (q + 8), op := Op.binOp BinOp.add 3 (Operand.tmp (q + 7)) (Operand.const (Value.int IntKind.i64 1)) 3, type := 3, pos := pos, after := #[{ on := 7, ground := Ground.data }], guard := none },
  { dst := some (q + 9), op := Op.indexAddr 46 (Operand.tmp (q + 6)) (Operand.tmp (q + 8)), type := 0, pos := pos, after := #[{ on := 6, ground := Ground.data }, { on := 8, ground := Ground.data }], guard := none },
  { dst := some (q + 10), op := Op.load 2 (Operand.tmp (q + 9)), type := 2, pos := pos, after := #[{ on := 9, ground := Ground.data }], guard := none },
  { dst := some (q + 11), op := Op.move (Operand.tmp nb), type := 46, pos := pos, after := #[], guard := none },
  { dst := some (q + 12), op := Op.move (Operand.tmp ix), type := 3, pos := pos, after := #[], guard := none },
  { dst := some (q + 13), op := Op.binOp BinOp.add 3 (Operand.tmp (q + 12)) (Operand.const (Value.int IntKind.i64 2)) 3, type := 3, pos := pos, after := #[{ on := 12, ground := Ground.data }], guard := none },
  { dst := some (q + 14), op := Op.indexAddr 46 (Operand.tmp (q + 11)) (Operand.tmp (q + 13)), type := 0, pos := pos, after := #[{ on := 11, ground := Ground.data }, { on := 13, ground := Ground.data }], guard := none },
  { dst := some (q + 15), op := Op.load 2 (Operand.tmp (q + 14)), type := 2, pos := pos, after := #[{ on := 14, ground := Ground.data }], guard := none },
  { dst := some (q + 16), op := Op.build 43 #[(0, Operand.tmp (q + 5)), (1, Operand.tmp (q + 10)), (2, Operand.tmp (q + 15))], type := 43, pos := pos, after := #[{ on := 5, ground := Ground.data }, { on := 10, ground := Ground.data }, { on := 15, ground := Ground.data }], guard := none },
  { dst := some (q + 17), op := Op.buildSlice 27 1 #[(0, Operand.tmp (q + 16))], type := 27, pos := pos, after := #[{ on := 16, ground := Ground.data }], guard := none },
  { dst := some (q + 18), op := Op.call { callee := Callee.builtin Builtin.append, args := #[Operand.tmp (q + 1), Operand.tmp (q + 17)], argTypes := #[27, 27] }, type := 27, pos := pos, after := #[{ on := 1, ground := Ground.data }, { on := 17, ground := Ground.data }], guard := none },
  { dst := some (q + 19), op := Op.fieldAddr 29 (Operand.tmp bx) 1, type := 0, pos := pos, after := #[{ on := 0, ground := Ground.phase }, { on := 1, ground := Ground.phase }, { on := 2, ground := Ground.phase }, { on := 3, ground := Ground.phase }, { on := 4, ground := Ground.phase }, { on := 5, ground := Ground.phase }, { on := 6, ground := Ground.phase }, { on := 7, ground := Ground.phase }, { on := 8, ground := Ground.phase }, { on := 9, ground := Ground.phase }, { on := 10, ground := Ground.phase }, { on := 11, ground := Ground.phase }, { on := 12, ground := Ground.phase }, { on := 13, ground := Ground.phase }, { on := 14, ground := Ground.phase }, { on := 15, ground := Ground.phase }, { on := 16, ground := Ground.phase }, { on := 17, ground := Ground.phase }, { on := 18, ground := Ground.phase }], guard := none },
  { dst := none, op := Op.store 27 (Operand.tmp (q + 19)) (Operand.tmp (q + 18)), type := 0, pos := pos, after := #[{ on := 19, ground := Ground.data }, { on := 18, ground := Ground.data }, { on := 18, ground := Ground.chain }, { on := 0, ground := Ground.phase }, { on := 1, ground := Ground.phase }, { on := 2, ground := Ground.phase }, { on := 3, ground := Ground.phase }, { on := 4, ground := Ground.phase }, { on := 5, ground := Ground.phase }, { on := 6, ground := Ground.phase }, { on := 7, ground := Ground.phase }, { on := 8, ground := Ground.phase }, { on := 9, ground := Ground.phase }, { on := 10, ground := Ground.phase }, { on := 11, ground := Ground.phase }, { on := 12, ground := Ground.phase }, { on := 13, ground := Ground.phase }, { on := 14, ground := Ground.phase }, { on := 15, ground := Ground.phase }, { on := 16, ground := Ground.phase }, { on := 17, ground := Ground.phase }, { on := 18, ground := Ground.phase }], guard := none }]
def freesA : List (Array Bool × Nat) := [(#[false, false, false, false, false, false, false, false, false, false, false, false, false, false, false, false, false, false, false, false, false], 0), (#[true, false, false, false, false, false, false, false, false, false, false, false, false, false, false, false, false, false, false, false, false], 2), (#[true, false, true, false, false, false, false, false, false, false, false, false, false, false, false, false, false, false, false, false, false], 3), (#[true, false, true, true, false, false, false, false, false, false, false, false, false, false, false, false, false, false, false, false, false], 4), (#[true, false, true, true, true, false, false, false, false, false, false, false, false, false, false, false, false, false, false, false, false], 5), (#[true, false, true, true, true, true, false, false, false, false, false, false, false, false, false, false, false, false, false, false, false], 6), (#[true, false, true, true, true, true, true, false, false, false, false, false, false, false, false, false, false, false, false, false, false], 7), (#[true, false, true, true, true, true, true, true, false, false, false, false, false, false, false, false, false, false, false, false, false], 8), (#[true, false, true, true, true, true, true, true, true, false, false, false, false, false, false, false, false, false, false, false, false], 9), (#[true, false, true, true, true, true, true, true, true, true, false, false, false, false, false, false, false, false, false, false, false], 10), (#[true, false, true, true, true, true, true, true, true, true, true, false, false, false, false, false, false, false, false, false, false], 11), (#[true, false, true, true, true, true, true, true, true, true, true, true, false, false, false, false, false, false, false, false, false], 12), (#[true, false, true, true, true, true, true, true, true, true, true, true, true, false, false, false, false, false, false, false, false], 13), (#[true, false, true, true, true, true, true, true, true, true, true, true, true, true, false, false, false, false, false, false, false], 14), (#[true, false, true, true, true, true, true, true, true, true, true, true, true, true, true, false, false, false, false, false, false], 15), (#[true, false, true, true, true, true, true, true, true, true, true, true, true, true, true, true, false, false, false, false, false], 16), (#[true, true, true, true, true, true, true, true, true, true, true, true, true, true, true, true, true, true, true, false, false], 19)]
theorem freeA_at {ops : Array Oper} (h : (freesA.all fun t => Region.free .any ops t.1 t.2) = true) (k : Nat) {l : Array Bool} {i : Nat} (hk : freesA[k]? = some (l, i)) : Region.free .any ops l i = true := by
  have := List.all_eq_true.1 h (l, i) (List.mem_of_getElem? hk)
  exact this

def afin (a : Act) (q : Nat) (z : Nat → Value) : Act := (((((((((((((((((((a.put (some (q)) (z 0)).put (some (q + 1)) (z 1)).put (some (q + 2)) (z 2)).put (some (q + 3)) (z 3)).put (some (q + 4)) (z 4)).put (some (q + 5)) (z 5)).put (some (q + 6)) (z 6)).put (some (q + 7)) (z 7)).put (some (q + 8)) (z 8)).put (some (q + 9)) (z 9)).put (some (q + 10)) (z 10)).put (some (q + 11)) (z 11)).put (some (q + 12)) (z 12)).put (some (q + 13)) (z 13)).put (some (q + 14)) (z 14)).put (some (q + 15)) (z 15)).put (some (q + 16)) (z 16)).put (some (q + 17)) (z 17)).put (some (q + 18)) (z 18)).put (some (q + 19)) (z 19)
theorem afin_is {a x : Act} {q : Nat} (hq : q + 19 < a.tmps.size) (hz : x.tmps.size = a.tmps.size) (hd : x.defers = a.defers) (old : ∀ j, (j < q ∨ q + 19 < j) → x.eval (.tmp j) = a.eval (.tmp j)) : x = afin a q (fun t => x.eval (.tmp (q + t))) := by
  unfold afin
  refine act_ext' (hd.trans (by simp only [putD])) (by simp only [putZ]; exact hz) (fun j hj => ?_)
  refine putO (by first | omega | (simp only [putZ]; omega)) (fun c => by rw [c]) (fun c19 => ?_)
  refine putO (by first | omega | (simp only [putZ]; omega)) (fun c => by rw [c]) (fun c18 => ?_)
  refine putO (by first | omega | (simp only [putZ]; omega)) (fun c => by rw [c]) (fun c17 => ?_)
  refine putO (by first | omega | (simp only [putZ]; omega)) (fun c => by rw [c]) (fun c16 => ?_)
  refine putO (by first | omega | (simp only [putZ]; omega)) (fun c => by rw [c]) (fun c15 => ?_)
  refine putO (by first | omega | (simp only [putZ]; omega)) (fun c => by rw [c]) (fun c14 => ?_)
  refine putO (by first | omega | (simp only [putZ]; omega)) (fun c => by rw [c]) (fun c13 => ?_)
  refine putO (by first | omega | (simp only [putZ]; omega)) (fun c => by rw [c]) (fun c12 => ?_)
  refine putO (by first | omega | (simp only [putZ]; omega)) (fun c => by rw [c]) (fun c11 => ?_)
  refine putO (by first | omega | (simp only [putZ]; omega)) (fun c => by rw [c]) (fun c10 => ?_)
  refine putO (by first | omega | (simp only [putZ]; omega)) (fun c => by rw [c]) (fun c9 => ?_)
  refine putO (by first | omega | (simp only [putZ]; omega)) (fun c => by rw [c]) (fun c8 => ?_)
  refine putO (by first | omega | (simp only [putZ]; omega)) (fun c => by rw [c]) (fun c7 => ?_)
  refine putO (by first | omega | (simp only [putZ]; omega)) (fun c => by rw [c]) (fun c6 => ?_)
  refine putO (by first | omega | (simp only [putZ]; omega)) (fun c => by rw [c]) (fun c5 => ?_)
  refine putO (by first | omega | (simp only [putZ]; omega)) (fun c => by rw [c]) (fun c4 => ?_)
  refine putO (by first | omega | (simp only [putZ]; omega)) (fun c => by rw [c]) (fun c3 => ?_)
  refine putO (by first | omega | (simp only [putZ]; omega)) (fun c => by rw [c]) (fun c2 => ?_)
  refine putO (by first | omega | (simp only [putZ]; omega)) (fun c => by rw [c]) (fun c1 => ?_)
  refine putO (by first | omega | (simp only [putZ]; omega)) (fun c => by rw [c]; rfl) (fun c0 => ?_)
  exact old j (by omega)

def c2 (v0 v1 : Value) (j : Nat) : Value := if j = 0 then v0 else v1
set_option maxHeartbeats 2000000 in
theorem region_arc {id : Nat} {a : Act} {w : World} {bx nb ix q : Nat} {pos : String} {Q : Exit → Act → World → Prop} {bb g n cap m k gc B rb : Nat} {go : Option Addr} {F fn : Nat → Int} {p : Value} {W0 : World} {fr : Nat → Value}
    (FR : (freesA.all fun t => Region.free .any (aops bx nb ix q pos) t.1 t.2) = true) (hq : q + 19 < a.tmps.size) (hbx : bx < q) (hnb : nb < q) (hix : ix < q) (HQ : ∀ c a i v w, Q (.panic c) (Act.put a (some i) v) w → Q (.panic c) a w)
    (abx : a.eval (.tmp bx) = .pointer (some ⟨bb, 0, none⟩)) (anb : a.eval (.tmp nb) = .slice (some ⟨g, 0, none⟩) n cap) (aix : a.eval (.tmp ix) = .int .i64 (m : Int))
    (hm : m + 2 < n) (hn : n ≤ 2000000) (hI : IHas w g n fn) (f0 : F (k * 3) = fn m) (f1 : F (k * 3 + 1) = fn (m + 1)) (f2 : F (k * 3 + 2) = fn (m + 2))
    (vG : VHas w bb 29 2 (c2 p (.slice go k gc))) (vR : VHas w rb 29 2 fr) (hO : OwnA w B go k gc F) (hk : k ≤ 10000000) (hgB : g < B) (hbB : bb < B) (hrB : rb < B) (hgb : g ≠ bb) (hrb : rb ≠ bb) (hBw : B ≤ w.heap.size)
    (hW : Below W0.heap.size W0 w) (hW1 : W0.heap.size ≤ bb) (hW2 : W0.heap.size ≤ B)
    (HK : ∀ X g' gc' z, VHas X bb 29 2 (c2 p (.slice (some ⟨g', 0, none⟩) (k + 1) gc')) → VHas X rb 29 2 fr → OwnA X B (some ⟨g', 0, none⟩) (k + 1) gc' F → IHas X g n fn → B ≤ X.heap.size → Below W0.heap.size W0 X → Q .normal (afin a q z) X) :
    (Code.region id (aops bx nb ix q pos) true).wp Tryd.prog Q a w := by
  have c0 := hI.cell (j := m) (by omega)
  have c1 := hI.cell (j := m + 1) (by omega)
  have c2' := hI.cell (j := m + 2) (by omega)
  have hd := (Below.refl w.heap.size w).drew
  have hba : Below w.drew.heap.size w.drew (w.drew.alloc (.cells #[.int .i64 (fn m), .int .i64 (fn (m + 1)), .int .i64 (fn (m + 2))] 43)) := (Below.refl w.drew.heap.size w.drew).alloc (Nat.le_refl _) (.cells #[.int .i64 (fn m), .int .i64 (fn (m + 1)), .int .i64 (fn (m + 2))] 43)
  have hdz : w.drew.heap.size = w.heap.size := rfl
  have hS0 : (fun Y : World => Y.cell? ⟨g, m, none⟩ = some (.int .i64 (fn m)) ∧ Y.cell? ⟨g, m + 1, none⟩ = some (.int .i64 (fn (m + 1))) ∧ Y.cell? ⟨g, m + 2, none⟩ = some (.int .i64 (fn (m + 2)))) w.drew := ⟨c0, c1, c2'⟩
  have hS1 : (fun Y : World => Y.cell? ⟨g, m, none⟩ = some (.int .i64 (fn m)) ∧ Y.cell? ⟨g, m + 1, none⟩ = some (.int .i64 (fn (m + 1))) ∧ Y.cell? ⟨g, m + 2, none⟩ = some (.int .i64 (fn (m + 2)))) (w.drew.alloc (.cells #[.int .i64 (fn m), .int .i64 (fn (m + 1)), .int .i64 (fn (m + 2))] 43)) := ⟨keep_cell hba (Nat.le_refl _) c0, keep_cell hba (Nat.le_refl _) c1, keep_cell hba (Nat.le_refl _) c2'⟩
  have vG1 := (vG.next hd).next hba
  have vR1 := (vR.next hd).next hba
  have hI1 := (hI.below hd hI.lt).below hba hI.lt
  have hO1 := (hO.next hd).next hba
  have hne : ∀ x, (Value.slice go k gc).ownBlock = some x → B ≤ x := fun x e => (hO.at e).1
  -- behind the load and the new arc, in either order
  have tail : ∀ (y : Act) (lst : Array Bool), lst = #[true, true, true, true, true, true, true, true, true, true, true, true, true, true, true, true, true, true, false, false, false] → y.tmps.size = a.tmps.size → y.defers = a.defers → (∀ j, (j < q ∨ q + 19 < j) → y.eval (.tmp j) = a.eval (.tmp j)) → y.eval (.tmp (q + 1)) = .slice go k gc → y.eval (.tmp (q + 17)) = .slice (some ⟨w.heap.size, 0, none⟩) 1 1 →
      wpAnyH Tryd.prog .any (aops bx nb ix q pos) Q (fun Y : World => Y.cell? ⟨g, m, none⟩ = some (.int .i64 (fn m)) ∧ Y.cell? ⟨g, m + 1, none⟩ = some (.int .i64 (fn (m + 1))) ∧ Y.cell? ⟨g, m + 2, none⟩ = some (.int .i64 (fn (m + 2)))) 3 lst y (w.drew.alloc (.cells #[.int .i64 (fn m), .int .i64 (fn (m + 1)), .int .i64 (fn (m + 2))] 43)) := by
    rintro y lst rfl yz yd yo y1 y17
    have ybx := (yo bx (.inl hbx)).trans abx
    refine step1H 18 _ rfl (by kernel_rfl) (by rfl) ?_
    refine wp_append_known (.tmp (q + 1)) (.tmp (q + 17)) rfl B k gc go F y1 hO1 w.heap.size y17 (by rw [f0, f1, f2]; exact Go.Deep.blk_alloc_new _ _) hk (by simp; omega) ?_
    intro g' gc' w6 hown6 hgrow hr6
    have hS6 : (fun Y : World => Y.cell? ⟨g, m, none⟩ = some (.int .i64 (fn m)) ∧ Y.cell? ⟨g, m + 1, none⟩ = some (.int .i64 (fn (m + 1))) ∧ Y.cell? ⟨g, m + 2, none⟩ = some (.int .i64 (fn (m + 2)))) w6 := ⟨hgrow.cell hS1.1 (fun e => by have := hne g e.symm; omega), hgrow.cell hS1.2.1 (fun e => by have := hne g e.symm; omega), hgrow.cell hS1.2.2 (fun e => by have := hne g e.symm; omega)⟩
    refine ⟨hS6, ?_⟩
    have x2 := vG1.grown hgrow (fun e => by have := hne _ e.symm; omega)
    have x1 := vR1.grown hgrow (fun e => by have := hne _ e.symm; omega)
    have xI := hI1.grown hgrow (fun e => by have := hne _ e.symm; omega)
    have b1 : w6.cell? ⟨bb, 1, none⟩ = some (.slice go k gc) := x2.cell (j := 1) (by omega)
    have z18 : q + 19 < (y.put (some (q + 18)) (.slice (some ⟨g', 0, none⟩) (k + 1) gc')).tmps.size := by rw [putZ]; omega
    have y18 : ((y.put (some (q + 18)) (.slice (some ⟨g', 0, none⟩) (k + 1) gc')).put (some (q + 19)) (.pointer (some ⟨bb, 1, none⟩))).eval (.tmp (q + 18)) = .slice (some ⟨g', 0, none⟩) (k + 1) gc' := (putN (by omega)).trans (putS (by omega))
    have y19 : ((y.put (some (q + 18)) (.slice (some ⟨g', 0, none⟩) (k + 1) gc')).put (some (q + 19)) (.pointer (some ⟨bb, 1, none⟩))).eval (.tmp (q + 19)) = .pointer (some ⟨bb, 1, none⟩) := putS z18
    refine takeH 19 (some (q + 19)) (.pointer (some ⟨bb, 1, none⟩)) rfl rfl (by kernel_rfl) (freeA_at FR 16 (by kernel_rfl)) (by kernel_rfl) (fun c a w => HQ c a _ _ w) (by rfl) hS6 (fun V hV => ru_field ((putN (by omega)).trans ybx)) ?_
    refine step1H 20 _ rfl (by kernel_rfl) (by rfl) (wp_of_skip (ru_store y19 y18 b1 (x2.frozen 1)) ?_)
    have hs9 := gr_setCell w6 bb 1 (.slice (some ⟨g', 0, none⟩) (k + 1) gc')
    refine ⟨⟨hs9.cell hS6.1 (by simp; omega), hs9.cell hS6.2.1 (by simp; omega), hs9.cell hS6.2.2 (by simp; omega)⟩, ?_⟩
    refine wpAnyH_done (by kernel_rfl) ?_ _
    have n2 := (x2.set 1 (.slice (some ⟨g', 0, none⟩) (k + 1) gc')).congr (g := c2 p (.slice (some ⟨g', 0, none⟩) (k + 1) gc')) (fun j hj => by
      have : j = 0 ∨ j = 1 := by omega
      rcases this with rfl | rfl <;> rfl)
    have n1 := x1.other (c := bb) (i := 1) hrb (.slice (some ⟨g', 0, none⟩) (k + 1) gc')
    have nI := xI.grown hs9 (by simp; omega)
    have nO := hown6.grown hs9 (fun x e => by have := (hown6.at e).1; simp; omega)
    have hsz6 : w.heap.size ≤ w6.heap.size := by have := hgrow.size; simp at this; omega
    have hsz9 : B ≤ (w6.setCell ⟨bb, 1, none⟩ (.slice (some ⟨g', 0, none⟩) (k + 1) gc')).heap.size := by have := hs9.size; omega
    have nB0 := (hW.drew.alloc (o := (.cells #[.int .i64 (fn m), .int .i64 (fn (m + 1)), .int .i64 (fn (m + 2))] 43)) (by have := hW.size; simp; omega)).grown hgrow (by have := hW.size; simp; omega) (fun x e => by have := hne x e; omega)
    have nB := nB0.setCell (p := ⟨bb, 1, none⟩) (by simpa using hW1) (.slice (some ⟨g', 0, none⟩) (k + 1) gc')
    have E := afin_is (a := a) (x := (y.put (some (q + 18)) (.slice (some ⟨g', 0, none⟩) (k + 1) gc')).put (some (q + 19)) (.pointer (some ⟨bb, 1, none⟩))) hq (by rw [putZ, putZ]; exact yz) (by rw [putD, putD]; exact yd) (fun j hj => by rw [putN (by omega), putN (by omega)]; exact yo j hj)
    have := HK _ g' gc' (fun t => ((y.put (some (q + 18)) (.slice (some ⟨g', 0, none⟩) (k + 1) gc')).put (some (q + 19)) (.pointer (some ⟨bb, 1, none⟩))).eval (.tmp (q + t))) n2 n1 nO nI hsz9 nB
    rw [← E] at this
    exact this
  refine wp_region_held_drew (S := (fun Y : World => Y.cell? ⟨g, m, none⟩ = some (.int .i64 (fn m)) ∧ Y.cell? ⟨g, m + 1, none⟩ = some (.int .i64 (fn (m + 1))) ∧ Y.cell? ⟨g, m + 2, none⟩ = some (.int .i64 (fn (m + 2))))) (by kernel_rfl) hS0 (fun hS0 => ?_)
  refine takeH 0 (some q) (.pointer (some ⟨bb, 1, none⟩)) rfl rfl (by kernel_rfl) (freeA_at FR 0 (by kernel_rfl)) (by kernel_rfl) (fun c a w => HQ c a _ _ w) (by rfl) hS0 (fun V hV => ru_field (abx)) ?_
  refine takeH 2 (some (q + 2)) (.slice (some ⟨g, 0, none⟩) n cap) rfl rfl (by kernel_rfl) (freeA_at FR 1 (by kernel_rfl)) (by kernel_rfl) (fun c a w => HQ c a _ _ w) (by rfl) hS0 (fun V hV => ru_move ((putN (by omega)).trans (anb))) ?_
  refine takeH 3 (some (q + 3)) (.int .i64 (m : Int)) rfl rfl (by kernel_rfl) (freeA_at FR 2 (by kernel_rfl)) (by kernel_rfl) (fun c a w => HQ c a _ _ w) (by rfl) hS0 (fun V hV => ru_move ((putN (by omega)).trans ((putN (by omega)).trans (aix)))) ?_
  refine takeH 4 (some (q + 4)) (.pointer (some ⟨g, m, none⟩)) rfl rfl (by kernel_rfl) (freeA_at FR 3 (by kernel_rfl)) (by kernel_rfl) (fun c a w => HQ c a _ _ w) (by rfl) hS0 (fun V hV => ru_index ((putN (by omega)).trans (putS (by first | omega | (simp only [putZ]; omega)))) (putS (by first | omega | (simp only [putZ]; omega))) rfl (by omega)) ?_
  refine takeH 5 (some (q + 5)) (.int .i64 (fn m)) rfl rfl (by kernel_rfl) (freeA_at FR 4 (by kernel_rfl)) (by kernel_rfl) (fun c a w => HQ c a _ _ w) (by rfl) hS0 (fun V hV => ru_loadI (putS (by first | omega | (simp only [putZ]; omega))) hV.1) ?_
  refine takeH 6 (some (q + 6)) (.slice (some ⟨g, 0, none⟩) n cap) rfl rfl (by kernel_rfl) (freeA_at FR 5 (by kernel_rfl)) (by kernel_rfl) (fun c a w => HQ c a _ _ w) (by rfl) hS0 (fun V hV => ru_move ((putN (by omega)).trans ((putN (by omega)).trans ((putN (by omega)).trans ((putN (by omega)).trans ((putN (by omega)).trans (anb))))))) ?_
  refine takeH 7 (some (q + 7)) (.int .i64 (m : Int)) rfl rfl (by kernel_rfl) (freeA_at FR 6 (by kernel_rfl)) (by kernel_rfl) (fun c a w => HQ c a _ _ w) (by rfl) hS0 (fun V hV => ru_move ((putN (by omega)).trans ((putN (by omega)).trans ((putN (by omega)).trans ((putN (by omega)).trans ((putN (by omega)).trans ((putN (by omega)).trans (aix)))))))) ?_
  refine takeH 8 (some (q + 8)) (.int .i64 ((m : Int) + 1)) rfl rfl (by kernel_rfl) (freeA_at FR 7 (by kernel_rfl)) (by kernel_rfl) (fun c a w => HQ c a _ _ w) (by rfl) hS0 (fun V hV => ru_add rfl (putS (by first | omega | (simp only [putZ]; omega))) (by omega) (by omega) (by omega) (by omega)) ?_
  refine takeH 9 (some (q + 9)) (.pointer (some ⟨g, m + 1, none⟩)) rfl rfl (by kernel_rfl) (freeA_at FR 8 (by kernel_rfl)) (by kernel_rfl) (fun c a w => HQ c a _ _ w) (by rfl) hS0 (fun V hV => ru_index ((putN (by omega)).trans ((putN (by omega)).trans (putS (by first | omega | (simp only [putZ]; omega))))) (putS (by first | omega | (simp only [putZ]; omega))) (by omega) (by omega)) ?_
  refine takeH 10 (some (q + 10)) (.int .i64 (fn (m + 1))) rfl rfl (by kernel_rfl) (freeA_at FR 9 (by kernel_rfl)) (by kernel_rfl) (fun c a w => HQ c a _ _ w) (by rfl) hS0 (fun V hV => ru_loadI (putS (by first | omega | (simp only [putZ]; omega))) hV.2.1) ?_
  refine takeH 11 (some (q + 11)) (.slice (some ⟨g, 0, none⟩) n cap) rfl rfl (by kernel_rfl) (freeA_at FR 10 (by kernel_rfl)) (by kernel_rfl) (fun c a w => HQ c a _ _ w) (by rfl) hS0 (fun V hV => ru_move ((putN (by omega)).trans ((putN (by omega)).trans ((putN (by omega)).trans ((putN (by omega)).trans ((putN (by omega)).trans ((putN (by omega)).trans ((putN (by omega)).trans ((putN (by omega)).trans ((putN (by omega)).trans ((putN (by omega)).trans (anb)))))))))))) ?_
  refine takeH 12 (some (q + 12)) (.int .i64 (m : Int)) rfl rfl (by kernel_rfl) (freeA_at FR 11 (by kernel_rfl)) (by kernel_rfl) (fun c a w => HQ c a _ _ w) (by rfl) hS0 (fun V hV => ru_move ((putN (by omega)).trans ((putN (by omega)).trans ((putN (by omega)).trans ((putN (by omega)).trans ((putN (by omega)).trans ((putN (by omega)).trans ((putN (by omega)).trans ((putN (by omega)).trans ((putN (by omega)).trans ((putN (by omega)).trans ((putN (by omega)).trans (aix))))))))))))) ?_
  refine takeH 13 (some (q + 13)) (.int .i64 ((m : Int) + 2)) rfl rfl (by kernel_rfl) (freeA_at FR 12 (by kernel_rfl)) (by kernel_rfl) (fun c a w => HQ c a _ _ w) (by rfl) hS0 (fun V hV => ru_add rfl (putS (by first | omega | (simp only [putZ]; omega))) (by omega) (by omega) (by omega) (by omega)) ?_
  refine takeH 14 (some (q + 14)) (.pointer (some ⟨g, m + 2, none⟩)) rfl rfl (by kernel_rfl) (freeA_at FR 13 (by kernel_rfl)) (by kernel_rfl) (fun c a w => HQ c a _ _ w) (by rfl) hS0 (fun V hV => ru_index ((putN (by omega)).trans ((putN (by omega)).trans (putS (by first | omega | (simp only [putZ]; omega))))) (putS (by first | omega | (simp only [putZ]; omega))) (by omega) (by omega)) ?_
  refine takeH 15 (some (q + 15)) (.int .i64 (fn (m + 2))) rfl rfl (by kernel_rfl) (freeA_at FR 14 (by kernel_rfl)) (by kernel_rfl) (fun c a w => HQ c a _ _ w) (by rfl) hS0 (fun V hV => ru_loadI (putS (by first | omega | (simp only [putZ]; omega))) hV.2.2) ?_
  refine takeH 16 (some (q + 16)) (.agg #[.int .i64 (fn m), .int .i64 (fn (m + 1)), .int .i64 (fn (m + 2))]) rfl rfl (by kernel_rfl) (freeA_at FR 15 (by kernel_rfl)) (by kernel_rfl) (fun c a w => HQ c a _ _ w) (by rfl) hS0 (fun V hV => ru_build ((putN (by omega)).trans ((putN (by omega)).trans ((putN (by omega)).trans ((putN (by omega)).trans ((putN (by omega)).trans ((putN (by omega)).trans ((putN (by omega)).trans ((putN (by omega)).trans ((putN (by omega)).trans ((putN (by omega)).trans (putS (by first | omega | (simp only [putZ]; omega))))))))))))) ((putN (by omega)).trans ((putN (by omega)).trans ((putN (by omega)).trans ((putN (by omega)).trans ((putN (by omega)).trans (putS (by first | omega | (simp only [putZ]; omega)))))))) (putS (by first | omega | (simp only [putZ]; omega)))) ?_
  have xz : ((((((((((((((((a.put (some q) (.pointer (some ⟨bb, 1, none⟩))).put (some (q + 2)) (.slice (some ⟨g, 0, none⟩) n cap)).put (some (q + 3)) (.int .i64 (m : Int))).put (some (q + 4)) (.pointer (some ⟨g, m, none⟩))).put (some (q + 5)) (.int .i64 (fn m))).put (some (q + 6)) (.slice (some ⟨g, 0, none⟩) n cap)).put (some (q + 7)) (.int .i64 (m : Int))).put (some (q + 8)) (.int .i64 ((m : Int) + 1))).put (some (q + 9)) (.pointer (some ⟨g, m + 1, none⟩))).put (some (q + 10)) (.int .i64 (fn (m + 1)))).put (some (q + 11)) (.slice (some ⟨g, 0, none⟩) n cap)).put (some (q + 12)) (.int .i64 (m : Int))).put (some (q + 13)) (.int .i64 ((m : Int) + 2))).put (some (q + 14)) (.pointer (some ⟨g, m + 2, none⟩))).put (some (q + 15)) (.int .i64 (fn (m + 2)))).put (some (q + 16)) (.agg #[.int .i64 (fn m), .int .i64 (fn (m + 1)), .int .i64 (fn (m + 2))])).tmps.size = a.tmps.size := by simp only [putZ]
  have xd : ((((((((((((((((a.put (some q) (.pointer (some ⟨bb, 1, none⟩))).put (some (q + 2)) (.slice (some ⟨g, 0, none⟩) n cap)).put (some (q + 3)) (.int .i64 (m : Int))).put (some (q + 4)) (.pointer (some ⟨g, m, none⟩))).put (some (q + 5)) (.int .i64 (fn m))).put (some (q + 6)) (.slice (some ⟨g, 0, none⟩) n cap)).put (some (q + 7)) (.int .i64 (m : Int))).put (some (q + 8)) (.int .i64 ((m : Int) + 1))).put (some (q + 9)) (.pointer (some ⟨g, m + 1, none⟩))).put (some (q + 10)) (.int .i64 (fn (m + 1)))).put (some (q + 11)) (.slice (some ⟨g, 0, none⟩) n cap)).put (some (q + 12)) (.int .i64 (m : Int))).put (some (q + 13)) (.int .i64 ((m : Int) + 2))).put (some (q + 14)) (.pointer (some ⟨g, m + 2, none⟩))).put (some (q + 15)) (.int .i64 (fn (m + 2)))).put (some (q + 16)) (.agg #[.int .i64 (fn m), .int .i64 (fn (m + 1)), .int .i64 (fn (m + 2))])).defers = a.defers := by simp only [putD]
  have xo : ∀ j, (j < q ∨ q + 19 < j) → ((((((((((((((((a.put (some q) (.pointer (some ⟨bb, 1, none⟩))).put (some (q + 2)) (.slice (some ⟨g, 0, none⟩) n cap)).put (some (q + 3)) (.int .i64 (m : Int))).put (some (q + 4)) (.pointer (some ⟨g, m, none⟩))).put (some (q + 5)) (.int .i64 (fn m))).put (some (q + 6)) (.slice (some ⟨g, 0, none⟩) n cap)).put (some (q + 7)) (.int .i64 (m : Int))).put (some (q + 8)) (.int .i64 ((m : Int) + 1))).put (some (q + 9)) (.pointer (some ⟨g, m + 1, none⟩))).put (some (q + 10)) (.int .i64 (fn (m + 1)))).put (some (q + 11)) (.slice (some ⟨g, 0, none⟩) n cap)).put (some (q + 12)) (.int .i64 (m : Int))).put (some (q + 13)) (.int .i64 ((m : Int) + 2))).put (some (q + 14)) (.pointer (some ⟨g, m + 2, none⟩))).put (some (q + 15)) (.int .i64 (fn (m + 2)))).put (some (q + 16)) (.agg #[.int .i64 (fn m), .int .i64 (fn (m + 1)), .int .i64 (fn (m + 2))])).eval (.tmp j) = a.eval (.tmp j) := fun j hj => (putN (by omega)).trans ((putN (by omega)).trans ((putN (by omega)).trans ((putN (by omega)).trans ((putN (by omega)).trans ((putN (by omega)).trans ((putN (by omega)).trans ((putN (by omega)).trans ((putN (by omega)).trans ((putN (by omega)).trans ((putN (by omega)).trans ((putN (by omega)).trans ((putN (by omega)).trans ((putN (by omega)).trans ((putN (by omega)).trans ((putN (by omega)).trans (rfl))))))))))))))))
  have x0 : ((((((((((((((((a.put (some q) (.pointer (some ⟨bb, 1, none⟩))).put (some (q + 2)) (.slice (some ⟨g, 0, none⟩) n cap)).put (some (q + 3)) (.int .i64 (m : Int))).put (some (q + 4)) (.pointer (some ⟨g, m, none⟩))).put (some (q + 5)) (.int .i64 (fn m))).put (some (q + 6)) (.slice (some ⟨g, 0, none⟩) n cap)).put (some (q + 7)) (.int .i64 (m : Int))).put (some (q + 8)) (.int .i64 ((m : Int) + 1))).put (some (q + 9)) (.pointer (some ⟨g, m + 1, none⟩))).put (some (q + 10)) (.int .i64 (fn (m + 1)))).put (some (q + 11)) (.slice (some ⟨g, 0, none⟩) n cap)).put (some (q + 12)) (.int .i64 (m : Int))).put (some (q + 13)) (.int .i64 ((m : Int) + 2))).put (some (q + 14)) (.pointer (some ⟨g, m + 2, none⟩))).put (some (q + 15)) (.int .i64 (fn (m + 2)))).put (some (q + 16)) (.agg #[.int .i64 (fn m), .int .i64 (fn (m + 1)), .int .i64 (fn (m + 2))])).eval (.tmp q) = .pointer (some ⟨bb, 1, none⟩) := ((putN (by omega)).trans ((putN (by omega)).trans ((putN (by omega)).trans ((putN (by omega)).trans ((putN (by omega)).trans ((putN (by omega)).trans ((putN (by omega)).trans ((putN (by omega)).trans ((putN (by omega)).trans ((putN (by omega)).trans ((putN (by omega)).trans ((putN (by omega)).trans ((putN (by omega)).trans ((putN (by omega)).trans ((putN (by omega)).trans (putS (by first | omega | (simp only [putZ]; omega))))))))))))))))))
  have x16 : ((((((((((((((((a.put (some q) (.pointer (some ⟨bb, 1, none⟩))).put (some (q + 2)) (.slice (some ⟨g, 0, none⟩) n cap)).put (some (q + 3)) (.int .i64 (m : Int))).put (some (q + 4)) (.pointer (some ⟨g, m, none⟩))).put (some (q + 5)) (.int .i64 (fn m))).put (some (q + 6)) (.slice (some ⟨g, 0, none⟩) n cap)).put (some (q + 7)) (.int .i64 (m : Int))).put (some (q + 8)) (.int .i64 ((m : Int) + 1))).put (some (q + 9)) (.pointer (some ⟨g, m + 1, none⟩))).put (some (q + 10)) (.int .i64 (fn (m + 1)))).put (some (q + 11)) (.slice (some ⟨g, 0, none⟩) n cap)).put (some (q + 12)) (.int .i64 (m : Int))).put (some (q + 13)) (.int .i64 ((m : Int) + 2))).put (some (q + 14)) (.pointer (some ⟨g, m + 2, none⟩))).put (some (q + 15)) (.int .i64 (fn (m + 2)))).put (some (q + 16)) (.agg #[.int .i64 (fn m), .int .i64 (fn (m + 1)), .int .i64 (fn (m + 2))])).eval (.tmp (q + 16)) = .agg #[.int .i64 (fn m), .int .i64 (fn (m + 1)), .int .i64 (fn (m + 2))] := (putS (by first | omega | (simp only [putZ]; omega)))
  generalize ((((((((((((((((a.put (some q) (.pointer (some ⟨bb, 1, none⟩))).put (some (q + 2)) (.slice (some ⟨g, 0, none⟩) n cap)).put (some (q + 3)) (.int .i64 (m : Int))).put (some (q + 4)) (.pointer (some ⟨g, m, none⟩))).put (some (q + 5)) (.int .i64 (fn m))).put (some (q + 6)) (.slice (some ⟨g, 0, none⟩) n cap)).put (some (q + 7)) (.int .i64 (m : Int))).put (some (q + 8)) (.int .i64 ((m : Int) + 1))).put (some (q + 9)) (.pointer (some ⟨g, m + 1, none⟩))).put (some (q + 10)) (.int .i64 (fn (m + 1)))).put (some (q + 11)) (.slice (some ⟨g, 0, none⟩) n cap)).put (some (q + 12)) (.int .i64 (m : Int))).put (some (q + 13)) (.int .i64 ((m : Int) + 2))).put (some (q + 14)) (.pointer (some ⟨g, m + 2, none⟩))).put (some (q + 15)) (.int .i64 (fn (m + 2)))).put (some (q + 16)) (.agg #[.int .i64 (fn m), .int .i64 (fn (m + 1)), .int .i64 (fn (m + 2))])) = x at xz xd xo x0 x16 ⊢
  have b1 : w.drew.cell? ⟨bb, 1, none⟩ = some (.slice go k gc) := vG.cell (j := 1) (by omega)
  refine step2H 1 17 _ _ rfl rfl (by kernel_rfl) (by rfl) (by rfl) ?_ ?_
  · refine wp_of_run (ru_loadA x0 b1) ⟨hS0, ?_⟩
    refine step1H 17 _ rfl (by kernel_rfl) (by rfl) (wp_of_made (ru_slice ((putN (by omega)).trans x16)) ⟨hS1, ?_⟩)
    exact tail ((x.put (some (q + 1)) (.slice go k gc)).put (some (q + 17)) (.slice (some ⟨w.heap.size, 0, none⟩) 1 1)) _ (by kernel_rfl) (by simp only [putZ]; exact xz) (by simp only [putD]; exact xd) (fun j hj => by rw [putN (by omega), putN (by omega)]; exact xo j hj) ((putN (by omega)).trans (putS (by omega))) (putS (by rw [putZ]; omega))
  · refine wp_of_made (ru_slice x16) ⟨hS1, ?_⟩
    refine step1H 1 _ rfl (by kernel_rfl) (by rfl) (wp_of_run (ru_loadA ((putN (by omega)).trans x0) (keep_cell hba (Nat.le_refl _) b1)) ⟨hS1, ?_⟩)
    exact tail ((x.put (some (q + 17)) (.slice (some ⟨w.heap.size, 0, none⟩) 1 1)).put (some (q + 1)) (.slice go k gc)) _ (by kernel_rfl) (by simp only [putZ]; exact xz) (by simp only [putD]; exact xd) (fun j hj => by rw [putN (by omega), putN (by omega)]; exact xo j hj) (putS (by rw [putZ]; omega)) ((putN (by omega)).trans (putS (by omega)))

end Go.Proofs.YtmnohgcjdhokdaeDoor
