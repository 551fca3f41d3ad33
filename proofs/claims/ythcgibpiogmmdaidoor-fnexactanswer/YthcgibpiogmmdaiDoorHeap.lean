/-
  The program's heap of places that wait, as memory: pairs of numbers in a block of the call's own, swapped, added, taken. In which order they lie is not looked at.
-/
import Derived.Test.YthcgibpiogmmdaiDoorInts
import Derived.Test.YthcgibpiogmmdaiDoorDist
import Derived.BigRegion
import Derived.Deep.AppendLies
set_option linter.unusedVariables false
set_option linter.unusedSimpArgs false
namespace Go.Proofs.YthcgibpiogmmdaiDoor
open Go.RowKit Go.Maps
attribute [local go_sem ↓] Go.wp_at_zero Go.wp_at_succ

/-- Cell j of pairs that lie one behind the other. -/
def pr (E : Nat → Int × Int) (j : Nat) : Int := if j % 2 = 0 then (E (j / 2)).1 else (E (j / 2)).2
theorem pr0 (E : Nat → Int × Int) (k : Nat) : pr E (k * 2) = (E k).1 := by
  unfold pr; rw [if_pos (by omega)]; congr 2; omega
theorem pr1 (E : Nat → Int × Int) (k : Nat) : pr E (k * 2 + 1) = (E k).2 := by
  unfold pr; rw [if_neg (by omega)]; congr 2; omega

/-- Block g has room for cap pairs, which may be written, and begins with n of them. -/
def PRow (w : World) (g cap n : Nat) (E : Nat → Int × Int) : Prop :=
  ∃ cur : Array Value, w.heap[g]? = some (.cells cur 53 (0, 0)) ∧ cur.size = cap * 2 ∧ n ≤ cap ∧ cap ≤ maxLen ∧ ∀ j, j < n * 2 → cur[j]? = some (.int .i64 (pr E j))
theorem PRow.cell {w : World} {g cap n : Nat} {E : Nat → Int × Int} (h : PRow w g cap n E) {j : Nat} (hj : j < n * 2) : w.cell? ⟨g, j, none⟩ = some (.int .i64 (pr E j)) := by
  obtain ⟨c, hb, _, _, _, hc⟩ := h
  simp [World.cell?, hb, hc j hj]
theorem PRow.cells {w : World} {g cap n : Nat} {E : Nat → Int × Int} (h : PRow w g cap n E) {k : Nat} (hk : k < n) : w.cell? ⟨g, k * 2, none⟩ = some (.int .i64 (E k).1) ∧ w.cell? ⟨g, k * 2 + 1, none⟩ = some (.int .i64 (E k).2) := by
  have h0 := h.cell (j := k * 2) (by omega)
  have h1 := h.cell (j := k * 2 + 1) (by omega)
  rw [pr0] at h0
  rw [pr1] at h1
  exact ⟨h0, h1⟩
theorem PRow.frozen {w : World} {g cap n : Nat} {E : Nat → Int × Int} (h : PRow w g cap n E) (j : Nat) : w.frozen? ⟨g, j, none⟩ = false := by
  obtain ⟨c, hb, _⟩ := h
  simp [World.frozen?, hb]
theorem PRow.lt {w : World} {g cap n : Nat} {E : Nat → Int × Int} (h : PRow w g cap n E) : g < w.heap.size := by
  obtain ⟨c, hb, _⟩ := h
  exact (Array.getElem?_eq_some_iff.1 hb).1
theorem PRow.of_block {w w' : World} {g cap n : Nat} {E : Nat → Int × Int} (h : PRow w g cap n E) (e : w'.heap[g]? = w.heap[g]?) : PRow w' g cap n E := by
  obtain ⟨c, hb, h1⟩ := h
  exact ⟨c, e.trans hb, h1⟩
theorem PRow.congr {w : World} {g cap n : Nat} {E E' : Nat → Int × Int} (h : PRow w g cap n E) (e : ∀ j, j < n * 2 → pr E j = pr E' j) : PRow w g cap n E' := by
  obtain ⟨c, hb, h1, h2, h3, hc⟩ := h
  exact ⟨c, hb, h1, h2, h3, fun j hj => by rw [hc j hj, e j hj]⟩
theorem PRow.less {w : World} {g cap n m : Nat} {E : Nat → Int × Int} (h : PRow w g cap n E) (hm : m ≤ n) : PRow w g cap m E := by
  obtain ⟨c, hb, h1, h2, h3, hc⟩ := h
  exact ⟨c, hb, h1, by omega, h3, fun j hj => hc j (by omega)⟩

def upP (E : Nat → Int × Int) (k : Nat) (v : Int × Int) : Nat → Int × Int := fun j => if j = k then v else E j
def swp (E : Nat → Int × Int) (i k : Nat) : Nat → Int × Int := upP (upP E i (E k)) k (E i)

/-- A pair is stored. -/
theorem PRow.put2 {w : World} {g cap n : Nat} {E : Nat → Int × Int} (h : PRow w g cap n E) {k : Nat} (hk : k < n) (x y : Int) :
    PRow ((w.setCell ⟨g, k * 2, none⟩ (.int .i64 x)).setCell ⟨g, k * 2 + 1, none⟩ (.int .i64 y)) g cap n (upP E k (x, y)) := by
  obtain ⟨c, hb, h1, h2, h3, hc⟩ := h
  have e1 : (w.setCell ⟨g, k * 2, none⟩ (.int .i64 x)).heap[g]? = some (.cells (c.setIfInBounds (k * 2) (.int .i64 x)) 53 (0, 0)) := by simp [World.setCell, Array.getElem?_modify, hb]
  refine ⟨(c.setIfInBounds (k * 2) (.int .i64 x)).setIfInBounds (k * 2 + 1) (.int .i64 y), ?_, by simpa using h1, h2, h3, fun j hj => ?_⟩
  · generalize w.setCell ⟨g, k * 2, none⟩ (.int .i64 x) = w1 at e1 ⊢
    simp [World.setCell, Array.getElem?_modify, e1]
  · rw [Array.getElem?_setIfInBounds, Array.getElem?_setIfInBounds]
    by_cases ea : j = k * 2 + 1
    · subst ea
      rw [if_pos rfl, pr1]
      simp [upP]; omega
    rw [if_neg (fun h => ea h.symm)]
    by_cases eb : j = k * 2
    · subst eb
      rw [if_pos rfl, pr0]
      simp [upP]; omega
    rw [if_neg (fun h => eb h.symm), hc j hj]
    have hne : j / 2 ≠ k := by omega
    simp [pr, upP, hne]

theorem mem_swp {E : Nat → Int × Int} {n i k : Nat} (hi : i < n) (hk : k < n) (x : Int × Int) : Mem (swp E i k) n x ↔ Mem E n x := by
  constructor
  · rintro ⟨j, hj, e⟩
    unfold swp upP at e
    split at e
    · exact ⟨i, hi, e⟩
    · split at e
      · exact ⟨k, hk, e⟩
      · exact ⟨j, hj, e⟩
  · rintro ⟨j, hj, e⟩
    by_cases h1 : j = i
    · subst h1; exact ⟨k, hk, by simp [swp, upP, e]⟩
    by_cases h2 : j = k
    · subst h2
      refine ⟨i, hi, ?_⟩
      have h1' : i ≠ j := fun h => h1 h.symm
      simp [swp, upP, h1', e]
    · exact ⟨j, hj, by simp [swp, upP, h1, h2, e]⟩

/-- The heap's one word, and the pairs behind it. -/
def HList (w : World) (hb g cap n : Nat) (E : Nat → Int × Int) : Prop :=
  w.heap[hb]? = some (.cells #[.slice (some ⟨g, 0, none⟩) n cap] 50 (0, 0)) ∧ PRow w g cap n E ∧ hb < g
theorem HList.word {w : World} {hb g cap n : Nat} {E : Nat → Int × Int} (h : HList w hb g cap n E) : w.cell? ⟨hb, 0, none⟩ = some (.slice (some ⟨g, 0, none⟩) n cap) := by
  simp [World.cell?, h.1]
theorem HList.wfree {w : World} {hb g cap n : Nat} {E : Nat → Int × Int} (h : HList w hb g cap n E) : w.frozen? ⟨hb, 0, none⟩ = false := by
  simp [World.frozen?, h.1]
theorem HList.below {w w' : World} {hb g cap n B : Nat} {E : Nat → Int × Int} (h : HList w hb g cap n E) (hB : Below B w w') (hl : w.heap.size ≤ B) : HList w' hb g cap n E :=
  ⟨(hB.block hb (by have := h.2.1.lt; have := h.2.2; omega)).trans h.1, h.2.1.of_block (hB.block g (by have := h.2.1.lt; omega)), h.2.2⟩

theorem HList.put2 {w : World} {hb g cap n : Nat} {E : Nat → Int × Int} (h : HList w hb g cap n E) {k : Nat} (hk : k < n) (x y : Int) :
    HList ((w.setCell ⟨g, k * 2, none⟩ (.int .i64 x)).setCell ⟨g, k * 2 + 1, none⟩ (.int .i64 y)) hb g cap n (upP E k (x, y)) := by
  refine ⟨?_, h.2.1.put2 hk x y, h.2.2⟩
  have hne : hb ≠ g := by have := h.2.2; omega
  rw [Below.heap_setCell _ _ _ _ hne, Below.heap_setCell _ _ _ _ hne]
  exact h.1
theorem HList.drew1 {w : World} {hb g cap n : Nat} {E : Nat → Int × Int} (h : HList w hb g cap n E) : HList w.drew hb g cap n E :=
  h.below (Below.refl _ w).drew (Nat.le_refl _)
theorem HList.drewN {w : World} {hb g cap n : Nat} {E : Nat → Int × Int} (h : HList w hb g cap n E) (m : Nat) : HList (w.drewN m) hb g cap n E :=
  h.below (below_drewN (Below.refl _ w) m) (Nat.le_refl _)

theorem ahead_any (a b c d : Int) (w : World) :
    Calls Tryd.prog 64 #[.agg #[.int .i64 a, .int .i64 b], .agg #[.int .i64 c, .int .i64 d]] w fun e w' => e = .returned (.bool (decide (b < d))) ∧ Below w.heap.size w w' := by
  go_enter Tryd.func64, Tryd.ntmps64
  go_wp2
  go_ret
  exact ⟨rfl, ((Below.refl _ _).alloc (Nat.le_refl _) _).alloc (by simp) _⟩

theorem ahead_at (a b : Int) (w : World) : Sem.run Tryd.prog (method 200 53 (.agg #[.int .i64 a, .int .i64 b]) "loop.example/g00161/impl.aheadOf") w = .ok (64, .agg #[.int .i64 a, .int .i64 b]) w := by
  kernel_rfl
theorem ahead_enters (args : Array Value) (w : World) : Sem.run Tryd.prog (callFunc 64 args) w = .ok (.enter 64 args) w := by
  kernel_rfl

/-- The cells of n pairs, one behind the other. -/
def pcells (E : Nat → Int × Int) (n : Nat) : List Value := (List.range (n * 2)).map fun j => .int .i64 (pr E j)
theorem pcells_at {E : Nat → Int × Int} {n j : Nat} (hj : j < n * 2) : (pcells E n)[j]? = some (.int .i64 (pr E j)) := by
  rw [pcells, List.getElem?_map, List.getElem?_range hj]; rfl
theorem pcells_len (E : Nat → Int × Int) (n : Nat) : (pcells E n).length = n * 2 := by simp [pcells]
theorem pcells_put (E : Nat → Int × Int) (n : Nat) (q s : Int) : pcells E n ++ [.int .i64 q, .int .i64 s] = pcells (upP E n (q, s)) (n + 1) := by
  apply List.ext_getElem?
  intro j
  by_cases h1 : j < n * 2
  · rw [List.getElem?_append_left (by rw [pcells_len]; exact h1), pcells_at h1, pcells_at (by omega)]
    have hne : j / 2 ≠ n := by omega
    simp [pr, upP, hne]
  by_cases h2 : j = n * 2
  · subst h2
    rw [List.getElem?_append_right (by rw [pcells_len]; omega), pcells_len, pcells_at (by omega), pr0]
    simp [upP]
  by_cases h3 : j = n * 2 + 1
  · subst h3
    rw [List.getElem?_append_right (by rw [pcells_len]; omega), pcells_len, pcells_at (by omega), pr1]
    simp [upP]
  · rw [List.getElem?_eq_none (by simp [pcells_len]; omega), List.getElem?_eq_none (by simp [pcells_len]; omega)]
theorem prow_of_owns {w : World} {base n : Nat} {v : Value} {E : Nat → Int × Int} (h : w.ownsRow base 53 2 v n (pcells E n)) (hv : v ≠ .slice none 0 0) : ∃ g cap, v = .slice (some ⟨g, 0, none⟩) n cap ∧ base ≤ g ∧ PRow w g cap n E := by
  obtain ⟨hl, h0 | ⟨g, cap, cur, rfl, hb, hh, h1, h2, h3, h4⟩⟩ := h
  · exact absurd h0.1 hv
  · refine ⟨g, cap, rfl, hb, cur, hh, h3, h1, h2, fun j hj => ?_⟩
    have : (cur.toList.take (n * 2))[j]? = (pcells E n)[j]? := by rw [h4]
    rw [List.getElem?_take_of_lt hj, pcells_at hj] at this
    simpa using this
theorem owns_of_prow {w : World} {base g cap n : Nat} {E : Nat → Int × Int} (h : PRow w g cap n E) (hb : base ≤ g) : w.ownsRow base 53 2 (.slice (some ⟨g, 0, none⟩) n cap) n (pcells E n) := by
  obtain ⟨cur, hh, h3, h1, h2, hc⟩ := h
  refine ⟨pcells_len E n, .inr ⟨g, cap, cur, rfl, hb, hh, h1, h2, h3, ?_⟩⟩
  apply List.ext_getElem?
  intro j
  by_cases hj : j < n * 2
  · rw [List.getElem?_take_of_lt hj, pcells_at hj]
    simpa using hc j hj
  · rw [List.getElem?_eq_none (by simp; omega), List.getElem?_eq_none (by rw [pcells_len]; omega)]

/-- The heap's one word, with whatever list behind it: none yet, or one of the call's own. -/
def Heap0 (w : World) (hb : Nat) (v : Value) (n : Nat) (E : Nat → Int × Int) : Prop :=
  w.heap[hb]? = some (.cells #[v] 50 (0, 0)) ∧ w.ownsRow (hb + 1) 53 2 v n (pcells E n)
theorem HList.heap0 {w : World} {hb g cap n : Nat} {E : Nat → Int × Int} (h : HList w hb g cap n E) : Heap0 w hb (.slice (some ⟨g, 0, none⟩) n cap) n E := ⟨h.1, owns_of_prow h.2.1 h.2.2⟩
theorem Heap0.word {w : World} {hb n : Nat} {v : Value} {E : Nat → Int × Int} (h : Heap0 w hb v n E) : w.cell? ⟨hb, 0, none⟩ = some v := by simp [World.cell?, h.1]
theorem Heap0.wfree {w : World} {hb n : Nat} {v : Value} {E : Nat → Int × Int} (h : Heap0 w hb v n E) : w.frozen? ⟨hb, 0, none⟩ = false := by simp [World.frozen?, h.1]

theorem Tryd.infoWait : (Tryd.prog.info? 53).map (fun i => (i.zero, i.size, i.bytes)) = some (some (.agg #[.int .i64 0, .int .i64 0]), 2, 16) := by kernel_rfl

/-- All that was there stays, but the heap's word and one block. -/
structure Stays (w w' : World) (hb : Nat) (ob : Option Nat) : Prop where
  os : w'.os = w.os
  tape : w'.tape = w.tape
  output : w'.output = w.output
  size : w.heap.size ≤ w'.heap.size
  block : ∀ k, k < w.heap.size → k ≠ hb → some k ≠ ob → w'.heap[k]? = w.heap[k]?
theorem Stays.refl (w : World) (hb : Nat) (ob : Option Nat) : Stays w w hb ob := ⟨rfl, rfl, rfl, Nat.le_refl _, fun _ _ _ _ => rfl⟩
theorem Stays.of_below {w w' : World} {hb : Nat} {ob : Option Nat} (h : Below w.heap.size w w') : Stays w w' hb ob := ⟨h.os, h.tape, h.output, h.size, fun k hk _ _ => h.block k hk⟩
theorem Stays.trans {w w1 w2 : World} {hb : Nat} {ob : Option Nat} (h : Stays w w1 hb ob) (k : Stays w1 w2 hb ob) : Stays w w2 hb ob :=
  ⟨k.os.trans h.os, k.tape.trans h.tape, k.output.trans h.output, Nat.le_trans h.size k.size, fun j hj h1 h2 => (k.block j (Nat.lt_of_lt_of_le hj h.size) h1 h2).trans (h.block j hj h1 h2)⟩
theorem Stays.next {w w1 w2 : World} {hb : Nat} {ob : Option Nat} (h : Stays w w1 hb ob) (k : Below w1.heap.size w1 w2) : Stays w w2 hb ob := h.trans (Stays.of_below k)
theorem Stays.drew1 {w w1 : World} {hb : Nat} {ob : Option Nat} (h : Stays w w1 hb ob) : Stays w w1.drew hb ob := h.next (Below.refl _ w1).drew
theorem Stays.drewN {w w1 : World} {hb : Nat} {ob : Option Nat} (h : Stays w w1 hb ob) (m : Nat) : Stays w (w1.drewN m) hb ob := h.next (below_drewN (Below.refl _ w1) m)
theorem Stays.setG {w w1 : World} {hb g : Nat} {ob : Option Nat} (h : Stays w w1 hb ob) (o : Nat) (hg : w.heap.size ≤ g ∨ some g = ob) (v : Value) : Stays w (w1.setCell ⟨g, o, none⟩ v) hb ob :=
  ⟨h.os, h.tape, h.output, by have := h.size; simpa [World.setCell] using this, fun k hk h1 h2 => (Below.heap_setCell _ _ _ _ (fun e => by
    rcases hg with hg | hg
    · simp at e; omega
    · simp at e; subst e; exact h2 hg)).trans (h.block k hk h1 h2)⟩
theorem Stays.setH {w w1 : World} {hb : Nat} {ob : Option Nat} (h : Stays w w1 hb ob) (o : Nat) (v : Value) : Stays w (w1.setCell ⟨hb, o, none⟩ v) hb ob :=
  ⟨h.os, h.tape, h.output, by have := h.size; simpa [World.setCell] using this, fun k hk h1 h2 => (Below.heap_setCell _ _ _ _ (fun e => h1 (by simpa using e))).trans (h.block k hk h1 h2)⟩
theorem Stays.below {w w1 : World} {hb : Nat} {ob : Option Nat} (h : Stays w w1 hb ob) (hl : hb ≤ w.heap.size) (ho : ∀ k, ob = some k → hb ≤ k) : Below hb w w1 :=
  ⟨h.os, h.tape, h.output, h.size, fun k hk => h.block k (by omega) (by omega) (fun e => by have := ho k e.symm; omega)⟩
theorem Stays.cell {w w1 : World} {hb b o : Nat} {ob : Option Nat} {v : Value} (h : Stays w w1 hb ob) (h1 : b ≠ hb) (h2 : some b ≠ ob) (hc : w.cell? ⟨b, o, none⟩ = some v) : w1.cell? ⟨b, o, none⟩ = some v :=
  (World.cell?_of_block (h.block b (lt_of_cell hc) h1 h2)).trans hc

/-- At a step of a region that draws its order: one pair more. -/
theorem step_append_pair {ops : Array Oper} {o : Oper} {a : Act} {w : World} {K : Act → World → Prop} {Q : Exit → Act → World → Prop} {X : Prop} (hgd : o.guard = none) (x y : Operand)
    (ho : o.op = .call { callee := .builtin .append, args := #[x, y], argTypes := #[48, 48] }) (hb n : Nat) (v : Value) (E : Nat → Int × Int) (hx : a.eval x = v)
    (hown : w.ownsRow (hb + 1) 53 2 v n (pcells E n)) (ad : Addr) (c : Nat) (q s : Int) (hy : a.eval y = .slice (some ad) 1 c)
    (h0 : w.cell? (ad.add 0) = some (.int .i64 q)) (h1 : w.cell? (ad.add 1) = some (.int .i64 s)) (hn : n ≤ 1000000000) (hbase : hb + 1 ≤ w.heap.size)
    (hK : ∀ g cap w', PRow w' g cap (n + 1) (upP E n (q, s)) → hb < g → w'.heap[hb]? = w.heap[hb]? → w'.cell? ⟨hb, 0, none⟩ = w.cell? ⟨hb, 0, none⟩ → w'.frozen? ⟨hb, 0, none⟩ = w.frozen? ⟨hb, 0, none⟩ → Stays w w' hb v.ownBlock → (w.heap.size ≤ g ∨ some g = v.ownBlock) → K (a.put o.dst (.slice (some ⟨g, 0, none⟩) (n + 1) cap)) w') :
    if Region.wanted o (yielded ops a.tmps) = true then Oper.wp Tryd.prog o a w K Q else X := by
  have hw : Region.wanted o (yielded ops a.tmps) = true := by simp [Region.wanted, hgd]
  rw [if_pos hw]
  obtain ⟨i, hi, hz0, hz1, hz2⟩ := info_parts Tryd.infoWait
  refine wp_append_lies w x y 48 ho (hb + 1) 53 i _ 2 16 Tryd.underlying48 hi hz0 hz1 hz2 rfl (by omega) v n (pcells E n) hx hown ad 1 c [.int .i64 q, .int .i64 s] hy rfl ?_ ?_ (by omega) (by unfold maxLen; omega) (by omega) hbase w.heap.size rfl ?_
  · intro j u hu
    match j, hu with
    | 0, hu => simp at hu; subst hu; exact h0
    | 1, hu => simp at hu; subst hu; exact h1
    | j + 2, hu => simp at hu
  · intro u hu
    simp at hu
    rcases hu with rfl | rfl <;> rfl
  · intro g cap w' hown' hgrow hat hlt
    rw [pcells_put] at hown'
    obtain ⟨g', cap', he, hg, hp⟩ := prow_of_owns hown' (fun e => by simp at e)
    simp at he
    obtain ⟨rfl, rfl⟩ := he
    have hvb : some hb ≠ v.ownBlock := fun e => by have := (hown.lt hb e.symm).1; omega
    have hblk := hgrow.block hb (by omega) hvb
    refine hK g cap w' hp (by omega) hblk (World.cell?_of_block hblk) (World.frozen?_of_block hblk) ⟨hgrow.os, hgrow.tape, hgrow.output, hgrow.size, fun k hk _ h2 => hgrow.block k hk h2⟩ ?_
    rcases hat with e | e
    · exact Or.inr e.symm
    · exact Or.inl (by omega)

end Go.Proofs.YthcgibpiogmmdaiDoor
