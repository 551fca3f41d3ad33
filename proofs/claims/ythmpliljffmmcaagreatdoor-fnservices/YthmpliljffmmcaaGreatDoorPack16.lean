/-
  Helpers: Heap, Put, Sink, Take.
-/
import Derived.Test.YthmpliljffmmcaaGreatDoorPack1
import Derived.Test.YthmpliljffmmcaaGreatDoorPack15
import Derived.BigRegion
import Derived.Deep.AppendLies
import Derived.Deep.RegionLaw
set_option linter.unusedVariables false
set_option linter.unusedSimpArgs false
namespace Go.Proofs.YthmpliljffmmcaaGreatDoor
section
open Go.RowKit Go.Maps
attribute [local go_sem ↓] Go.wp_at_zero Go.wp_at_succ
def pr (E : Nat → Int × Int) (j : Nat) : Int := if j % 2 = 0 then (E (j / 2)).1 else (E (j / 2)).2
theorem pr0 (E : Nat → Int × Int) (k : Nat) : pr E (k * 2) = (E k).1 := by
  unfold pr; rw [if_pos (by omega)]; congr 2; omega
theorem pr1 (E : Nat → Int × Int) (k : Nat) : pr E (k * 2 + 1) = (E k).2 := by
  unfold pr; rw [if_neg (by omega)]; congr 2; omega
def PRow (w : World) (g cap n : Nat) (E : Nat → Int × Int) : Prop :=
  ∃ cur : Array Value, w.heap[g]? = some (.cells cur 107 (0, 0)) ∧ cur.size = cap * 2 ∧ n ≤ cap ∧ cap ≤ maxLen ∧ ∀ j, j < n * 2 → cur[j]? = some (.int .i64 (pr E j))
theorem PRow.cell {w : World} {g cap n : Nat} {E : Nat → Int × Int} (h : PRow w g cap n E) {j : Nat} (hj : j < n * 2) : w.cell? ⟨g, j, none⟩ = some (.int .i64 (pr E j)) := by
  obtain ⟨c, hb, _, _, _, hc⟩ := h
  simp [World.cell?, hb, hc j hj]
theorem PRow.cells {w : World} {g cap n : Nat} {E : Nat → Int × Int} (h : PRow w g cap n E) {k : Nat} (hk : k < n) : w.cell? ⟨g, k * 2, none⟩ = some (.int .i64 (E k).1) ∧ w.cell? ⟨g, k * 2 + 1, none⟩ = some (.int .i64 (E k).2) := by
  have h0 := h.cell (j := k * 2) (by omega)
  have h1 := h.cell (j := k * 2 + 1) (by omega)
  rw [pr0] at h0
  rw [pr1] at h1
  exact ⟨h0, h1⟩
theorem PRow.frozen {w : World} {g cap n : Nat} {E : Nat → Int × Int} (h : PRow w g cap n E) (j : Nat) : w.frozen? ⟨g, j, none⟩ = false := by
  obtain ⟨c, hb, _⟩ := h
  simp [World.frozen?, hb]
theorem PRow.lt {w : World} {g cap n : Nat} {E : Nat → Int × Int} (h : PRow w g cap n E) : g < w.heap.size := by
  obtain ⟨c, hb, _⟩ := h
  exact (Array.getElem?_eq_some_iff.1 hb).1
theorem PRow.of_block {w w' : World} {g cap n : Nat} {E : Nat → Int × Int} (h : PRow w g cap n E) (e : w'.heap[g]? = w.heap[g]?) : PRow w' g cap n E := by
  obtain ⟨c, hb, h1⟩ := h
  exact ⟨c, e.trans hb, h1⟩
theorem PRow.congr {w : World} {g cap n : Nat} {E E' : Nat → Int × Int} (h : PRow w g cap n E) (e : ∀ j, j < n * 2 → pr E j = pr E' j) : PRow w g cap n E' := by
  obtain ⟨c, hb, h1, h2, h3, hc⟩ := h
  exact ⟨c, hb, h1, h2, h3, fun j hj => by rw [hc j hj, e j hj]⟩
theorem PRow.less {w : World} {g cap n m : Nat} {E : Nat → Int × Int} (h : PRow w g cap n E) (hm : m ≤ n) : PRow w g cap m E := by
  obtain ⟨c, hb, h1, h2, h3, hc⟩ := h
  exact ⟨c, hb, h1, by omega, h3, fun j hj => hc j (by omega)⟩
def upP (E : Nat → Int × Int) (k : Nat) (v : Int × Int) : Nat → Int × Int := fun j => if j = k then v else E j
def swp (E : Nat → Int × Int) (i k : Nat) : Nat → Int × Int := upP (upP E i (E k)) k (E i)
theorem PRow.put2 {w : World} {g cap n : Nat} {E : Nat → Int × Int} (h : PRow w g cap n E) {k : Nat} (hk : k < n) (x y : Int) :
    PRow ((w.setCell ⟨g, k * 2, none⟩ (.int .i64 x)).setCell ⟨g, k * 2 + 1, none⟩ (.int .i64 y)) g cap n (upP E k (x, y)) := by
  obtain ⟨c, hb, h1, h2, h3, hc⟩ := h
  have e1 : (w.setCell ⟨g, k * 2, none⟩ (.int .i64 x)).heap[g]? = some (.cells (c.setIfInBounds (k * 2) (.int .i64 x)) 107 (0, 0)) := by simp [World.setCell, Array.getElem?_modify, hb]
  refine ⟨(c.setIfInBounds (k * 2) (.int .i64 x)).setIfInBounds (k * 2 + 1) (.int .i64 y), ?_, by simpa using h1, h2, h3, fun j hj => ?_⟩
  · generalize w.setCell ⟨g, k * 2, none⟩ (.int .i64 x) = w1 at e1 ⊢
    simp [World.setCell, Array.getElem?_modify, e1]
  · rw [Array.getElem?_setIfInBounds, Array.getElem?_setIfInBounds]
    by_cases ea : j = k * 2 + 1
    · subst ea
      rw [if_pos rfl, pr1]
      simp [upP]; omega
    rw [if_neg (fun h => ea h.symm)]
    by_cases eb : j = k * 2
    · subst eb
      rw [if_pos rfl, pr0]
      simp [upP]; omega
    rw [if_neg (fun h => eb h.symm), hc j hj]
    have hne : j / 2 ≠ k := by omega
    simp [pr, upP, hne]
theorem mem_swp {E : Nat → Int × Int} {n i k : Nat} (hi : i < n) (hk : k < n) (x : Int × Int) : Mem (swp E i k) n x ↔ Mem E n x := by
  constructor
  · rintro ⟨j, hj, e⟩
    unfold swp upP at e
    split at e
    · exact ⟨i, hi, e⟩
    · split at e
      · exact ⟨k, hk, e⟩
      · exact ⟨j, hj, e⟩
  · rintro ⟨j, hj, e⟩
    by_cases h1 : j = i
    · subst h1; exact ⟨k, hk, by simp [swp, upP, e]⟩
    by_cases h2 : j = k
    · subst h2
      refine ⟨i, hi, ?_⟩
      have h1' : i ≠ j := fun h => h1 h.symm
      simp [swp, upP, h1', e]
    · exact ⟨j, hj, by simp [swp, upP, h1, h2, e]⟩
def HList (w : World) (hb g cap n : Nat) (E : Nat → Int × Int) : Prop :=
  w.heap[hb]? = some (.cells #[.slice (some ⟨g, 0, none⟩) n cap] 104 (0, 0)) ∧ PRow w g cap n E ∧ hb < g
theorem HList.word {w : World} {hb g cap n : Nat} {E : Nat → Int × Int} (h : HList w hb g cap n E) : w.cell? ⟨hb, 0, none⟩ = some (.slice (some ⟨g, 0, none⟩) n cap) := by
  simp [World.cell?, h.1]
theorem HList.wfree {w : World} {hb g cap n : Nat} {E : Nat → Int × Int} (h : HList w hb g cap n E) : w.frozen? ⟨hb, 0, none⟩ = false := by
  simp [World.frozen?, h.1]
theorem HList.below {w w' : World} {hb g cap n B : Nat} {E : Nat → Int × Int} (h : HList w hb g cap n E) (hB : Below B w w') (hl : w.heap.size ≤ B) : HList w' hb g cap n E :=
  ⟨(hB.block hb (by have := h.2.1.lt; have := h.2.2; omega)).trans h.1, h.2.1.of_block (hB.block g (by have := h.2.1.lt; omega)), h.2.2⟩
theorem HList.put2 {w : World} {hb g cap n : Nat} {E : Nat → Int × Int} (h : HList w hb g cap n E) {k : Nat} (hk : k < n) (x y : Int) :
    HList ((w.setCell ⟨g, k * 2, none⟩ (.int .i64 x)).setCell ⟨g, k * 2 + 1, none⟩ (.int .i64 y)) hb g cap n (upP E k (x, y)) := by
  refine ⟨?_, h.2.1.put2 hk x y, h.2.2⟩
  have hne : hb ≠ g := by have := h.2.2; omega
  rw [Below.heap_setCell _ _ _ _ hne, Below.heap_setCell _ _ _ _ hne]
  exact h.1
theorem HList.drew1 {w : World} {hb g cap n : Nat} {E : Nat → Int × Int} (h : HList w hb g cap n E) : HList w.drew hb g cap n E :=
  h.below (Below.refl _ w).drew (Nat.le_refl _)
theorem HList.drewN {w : World} {hb g cap n : Nat} {E : Nat → Int × Int} (h : HList w hb g cap n E) (m : Nat) : HList (w.drewN m) hb g cap n E :=
  h.below (below_drewN (Below.refl _ w) m) (Nat.le_refl _)
theorem ahead_any (a b c d : Int) (w : World) :
    Calls Tryz.prog 155 #[.agg #[.int .i64 a, .int .i64 b], .agg #[.int .i64 c, .int .i64 d]] w fun e w' => e = .returned (.bool (decide (b < d))) ∧ Below w.heap.size w w' := by
  go_enter Tryz.func155, Tryz.ntmps155
  go_wp2
  go_ret
  exact ⟨rfl, ((Below.refl _ _).alloc (Nat.le_refl _) _).alloc (by simp) _⟩
theorem ahead_at (a b : Int) (w : World) : Sem.run Tryz.prog (method 308 107 (.agg #[.int .i64 a, .int .i64 b]) "loop.example/g00161/impl.aheadOf") w = .ok (155, .agg #[.int .i64 a, .int .i64 b]) w := by
  kernel_rfl
theorem ahead_enters (args : Array Value) (w : World) : Sem.run Tryz.prog (callFunc 155 args) w = .ok (.enter 155 args) w := by
  kernel_rfl
def pcells (E : Nat → Int × Int) (n : Nat) : List Value := (List.range (n * 2)).map fun j => .int .i64 (pr E j)
theorem pcells_at {E : Nat → Int × Int} {n j : Nat} (hj : j < n * 2) : (pcells E n)[j]? = some (.int .i64 (pr E j)) := by
  rw [pcells, List.getElem?_map, List.getElem?_range hj]; rfl
theorem pcells_len (E : Nat → Int × Int) (n : Nat) : (pcells E n).length = n * 2 := by simp [pcells]
theorem pcells_put (E : Nat → Int × Int) (n : Nat) (q s : Int) : pcells E n ++ [.int .i64 q, .int .i64 s] = pcells (upP E n (q, s)) (n + 1) := by
  apply List.ext_getElem?
  intro j
  by_cases h1 : j < n * 2
  · rw [List.getElem?_append_left (by rw [pcells_len]; exact h1), pcells_at h1, pcells_at (by omega)]
    have hne : j / 2 ≠ n := by omega
    simp [pr, upP, hne]
  by_cases h2 : j = n * 2
  · subst h2
    rw [List.getElem?_append_right (by rw [pcells_len]; omega), pcells_len, pcells_at (by omega), pr0]
    simp [upP]
  by_cases h3 : j = n * 2 + 1
  · subst h3
    rw [List.getElem?_append_right (by rw [pcells_len]; omega), pcells_len, pcells_at (by omega), pr1]
    simp [upP]
  · rw [List.getElem?_eq_none (by simp [pcells_len]; omega), List.getElem?_eq_none (by simp [pcells_len]; omega)]
theorem prow_of_owns {w : World} {base n : Nat} {v : Value} {E : Nat → Int × Int} (h : w.ownsRow base 107 2 v n (pcells E n)) (hv : v ≠ .slice none 0 0) : ∃ g cap, v = .slice (some ⟨g, 0, none⟩) n cap ∧ base ≤ g ∧ PRow w g cap n E := by
  obtain ⟨hl, h0 | ⟨g, cap, cur, rfl, hb, hh, h1, h2, h3, h4⟩⟩ := h
  · exact absurd h0.1 hv
  · refine ⟨g, cap, rfl, hb, cur, hh, h3, h1, h2, fun j hj => ?_⟩
    have : (cur.toList.take (n * 2))[j]? = (pcells E n)[j]? := by rw [h4]
    rw [List.getElem?_take_of_lt hj, pcells_at hj] at this
    simpa using this
theorem owns_of_prow {w : World} {base g cap n : Nat} {E : Nat → Int × Int} (h : PRow w g cap n E) (hb : base ≤ g) : w.ownsRow base 107 2 (.slice (some ⟨g, 0, none⟩) n cap) n (pcells E n) := by
  obtain ⟨cur, hh, h3, h1, h2, hc⟩ := h
  refine ⟨pcells_len E n, .inr ⟨g, cap, cur, rfl, hb, hh, h1, h2, h3, ?_⟩⟩
  apply List.ext_getElem?
  intro j
  by_cases hj : j < n * 2
  · rw [List.getElem?_take_of_lt hj, pcells_at hj]
    simpa using hc j hj
  · rw [List.getElem?_eq_none (by simp; omega), List.getElem?_eq_none (by rw [pcells_len]; omega)]
def Heap0 (w : World) (hb : Nat) (v : Value) (n : Nat) (E : Nat → Int × Int) : Prop :=
  w.heap[hb]? = some (.cells #[v] 104 (0, 0)) ∧ w.ownsRow (hb + 1) 107 2 v n (pcells E n)
theorem HList.heap0 {w : World} {hb g cap n : Nat} {E : Nat → Int × Int} (h : HList w hb g cap n E) : Heap0 w hb (.slice (some ⟨g, 0, none⟩) n cap) n E := ⟨h.1, owns_of_prow h.2.1 h.2.2⟩
theorem Heap0.word {w : World} {hb n : Nat} {v : Value} {E : Nat → Int × Int} (h : Heap0 w hb v n E) : w.cell? ⟨hb, 0, none⟩ = some v := by simp [World.cell?, h.1]
theorem Heap0.wfree {w : World} {hb n : Nat} {v : Value} {E : Nat → Int × Int} (h : Heap0 w hb v n E) : w.frozen? ⟨hb, 0, none⟩ = false := by simp [World.frozen?, h.1]
theorem Tryz.infoWait : (Tryz.prog.info? 107).map (fun i => (i.zero, i.size, i.bytes)) = some (some (.agg #[.int .i64 0, .int .i64 0]), 2, 16) := by kernel_rfl
structure Stays (w w' : World) (hb : Nat) (ob : Option Nat) : Prop where
  os : w'.os = w.os
  tape : w'.tape = w.tape
  output : w'.output = w.output
  size : w.heap.size ≤ w'.heap.size
  block : ∀ k, k < w.heap.size → k ≠ hb → some k ≠ ob → w'.heap[k]? = w.heap[k]?
theorem Stays.refl (w : World) (hb : Nat) (ob : Option Nat) : Stays w w hb ob := ⟨rfl, rfl, rfl, Nat.le_refl _, fun _ _ _ _ => rfl⟩
theorem Stays.of_below {w w' : World} {hb : Nat} {ob : Option Nat} (h : Below w.heap.size w w') : Stays w w' hb ob := ⟨h.os, h.tape, h.output, h.size, fun k hk _ _ => h.block k hk⟩
theorem Stays.trans {w w1 w2 : World} {hb : Nat} {ob : Option Nat} (h : Stays w w1 hb ob) (k : Stays w1 w2 hb ob) : Stays w w2 hb ob :=
  ⟨k.os.trans h.os, k.tape.trans h.tape, k.output.trans h.output, Nat.le_trans h.size k.size, fun j hj h1 h2 => (k.block j (Nat.lt_of_lt_of_le hj h.size) h1 h2).trans (h.block j hj h1 h2)⟩
theorem Stays.next {w w1 w2 : World} {hb : Nat} {ob : Option Nat} (h : Stays w w1 hb ob) (k : Below w1.heap.size w1 w2) : Stays w w2 hb ob := h.trans (Stays.of_below k)
theorem Stays.drew1 {w w1 : World} {hb : Nat} {ob : Option Nat} (h : Stays w w1 hb ob) : Stays w w1.drew hb ob := h.next (Below.refl _ w1).drew
theorem Stays.drewN {w w1 : World} {hb : Nat} {ob : Option Nat} (h : Stays w w1 hb ob) (m : Nat) : Stays w (w1.drewN m) hb ob := h.next (below_drewN (Below.refl _ w1) m)
theorem Stays.setG {w w1 : World} {hb g : Nat} {ob : Option Nat} (h : Stays w w1 hb ob) (o : Nat) (hg : w.heap.size ≤ g ∨ some g = ob) (v : Value) : Stays w (w1.setCell ⟨g, o, none⟩ v) hb ob :=
  ⟨h.os, h.tape, h.output, by have := h.size; simpa [World.setCell] using this, fun k hk h1 h2 => (Below.heap_setCell _ _ _ _ (fun e => by
    rcases hg with hg | hg
    · simp at e; omega
    · simp at e; subst e; exact h2 hg)).trans (h.block k hk h1 h2)⟩
theorem Stays.setH {w w1 : World} {hb : Nat} {ob : Option Nat} (h : Stays w w1 hb ob) (o : Nat) (v : Value) : Stays w (w1.setCell ⟨hb, o, none⟩ v) hb ob :=
  ⟨h.os, h.tape, h.output, by have := h.size; simpa [World.setCell] using this, fun k hk h1 h2 => (Below.heap_setCell _ _ _ _ (fun e => h1 (by simpa using e))).trans (h.block k hk h1 h2)⟩
theorem Stays.below {w w1 : World} {hb : Nat} {ob : Option Nat} (h : Stays w w1 hb ob) (hl : hb ≤ w.heap.size) (ho : ∀ k, ob = some k → hb ≤ k) : Below hb w w1 :=
  ⟨h.os, h.tape, h.output, h.size, fun k hk => h.block k (by omega) (by omega) (fun e => by have := ho k e.symm; omega)⟩
theorem Stays.cell {w w1 : World} {hb b o : Nat} {ob : Option Nat} {v : Value} (h : Stays w w1 hb ob) (h1 : b ≠ hb) (h2 : some b ≠ ob) (hc : w.cell? ⟨b, o, none⟩ = some v) : w1.cell? ⟨b, o, none⟩ = some v :=
  (World.cell?_of_block (h.block b (lt_of_cell hc) h1 h2)).trans hc
theorem step_append_pair {ops : Array Oper} {o : Oper} {a : Act} {w : World} {K : Act → World → Prop} {Q : Exit → Act → World → Prop} {X : Prop} (hgd : o.guard = none) (x y : Operand)
    (ho : o.op = .call { callee := .builtin .append, args := #[x, y], argTypes := #[102, 102] }) (hb n : Nat) (v : Value) (E : Nat → Int × Int) (hx : a.eval x = v)
    (hown : w.ownsRow (hb + 1) 107 2 v n (pcells E n)) (ad : Addr) (c : Nat) (q s : Int) (hy : a.eval y = .slice (some ad) 1 c)
    (h0 : w.cell? (ad.add 0) = some (.int .i64 q)) (h1 : w.cell? (ad.add 1) = some (.int .i64 s)) (hn : n ≤ 1000000000) (hbase : hb + 1 ≤ w.heap.size)
    (hK : ∀ g cap w', PRow w' g cap (n + 1) (upP E n (q, s)) → hb < g → w'.heap[hb]? = w.heap[hb]? → w'.cell? ⟨hb, 0, none⟩ = w.cell? ⟨hb, 0, none⟩ → w'.frozen? ⟨hb, 0, none⟩ = w.frozen? ⟨hb, 0, none⟩ → Stays w w' hb v.ownBlock → (w.heap.size ≤ g ∨ some g = v.ownBlock) → K (a.put o.dst (.slice (some ⟨g, 0, none⟩) (n + 1) cap)) w') :
    if Region.wanted o (yielded ops a.tmps) = true then Oper.wp Tryz.prog o a w K Q else X := by
  have hw : Region.wanted o (yielded ops a.tmps) = true := by simp [Region.wanted, hgd]
  rw [if_pos hw]
  obtain ⟨i, hi, hz0, hz1, hz2⟩ := info_parts Tryz.infoWait
  refine wp_append_lies w x y 102 ho (hb + 1) 107 i _ 2 16 Tryz.underlying102 hi hz0 hz1 hz2 rfl (by omega) v n (pcells E n) hx hown ad 1 c [.int .i64 q, .int .i64 s] hy rfl ?_ ?_ (by omega) (by unfold maxLen; omega) (by omega) hbase w.heap.size rfl ?_
  · intro j u hu
    match j, hu with
    | 0, hu => simp at hu; subst hu; exact h0
    | 1, hu => simp at hu; subst hu; exact h1
    | j + 2, hu => simp at hu
  · intro u hu
    simp at hu
    rcases hu with rfl | rfl <;> rfl
  · intro g cap w' hown' hgrow hat hlt
    rw [pcells_put] at hown'
    obtain ⟨g', cap', he, hg, hp⟩ := prow_of_owns hown' (fun e => by simp at e)
    simp at he
    obtain ⟨rfl, rfl⟩ := he
    have hvb : some hb ≠ v.ownBlock := fun e => by have := (hown.lt hb e.symm).1; omega
    have hblk := hgrow.block hb (by omega) hvb
    refine hK g cap w' hp (by omega) hblk (World.cell?_of_block hblk) (World.frozen?_of_block hblk) ⟨hgrow.os, hgrow.tape, hgrow.output, hgrow.size, fun k hk _ h2 => hgrow.block k hk h2⟩ ?_
    rcases hat with e | e
    · exact Or.inr e.symm
    · exact Or.inl (by omega)
theorem hlist_store {w1 : World} {hb g cap n : Nat} {v : Value} {E : Nat → Int × Int} (hblk : w1.heap[hb]? = some (.cells #[v] 104 (0, 0))) (hp : PRow w1 g cap n E) (hg : hb < g) : HList (w1.setCell ⟨hb, 0, none⟩ (.slice (some ⟨g, 0, none⟩) n cap)) hb g cap n E :=
  ⟨by simp [World.setCell, Array.getElem?_modify, hblk], hp.of_block (Below.heap_setCell _ _ _ _ (Nat.ne_of_gt hg)), hg⟩
set_option maxRecDepth 1000000 in
set_option maxHeartbeats 4000000 in
theorem put_any (hb n : Nat) (v : Value) (E : Nat → Int × Int) (q s : Int) (hn : n ≤ 1000000000) (w : World) (h : Heap0 w hb v n E) :
    Calls Tryz.prog 65 #[.pointer (some ⟨hb, 0, none⟩), .agg #[.int .i64 q, .int .i64 s]] w fun e w' => e = .returned (.tuple #[]) ∧ ∃ g cap E', HList w' hb g cap (n + 1) E' ∧ (∀ x, Mem E' (n + 1) x ↔ Mem (upP E n (q, s)) (n + 1) x) ∧ Stays w w' hb v.ownBlock ∧ (w.heap.size ≤ g ∨ some g = v.ownBlock) := by
  have mA := ahead_at
  have mE := ahead_enters
  have c0 := h.word
  have f0 := h.wfree
  have hlt0 : hb < w.heap.size := lt_of_cell c0
  have hown := h.2
  go_enter Tryz.func65, Tryz.ntmps65
  go_wp2
  go_region_law ((refine step_append_pair rfl _ _ rfl hb n v E rfl (World.ownsRow.drew ((hown.alloc _).alloc _)) ⟨w.heap.size + 1, 0, none⟩ 1 q s rfl (by simp [go_sem]) (by simp [go_sem]) hn (by simp; omega) ?_; intro g cap w1 hp hg hblk hc1 hf1 hbe hgo0))
  all_goals have hbel1 : Stays w w1 hb v.ownBlock := (Stays.of_below (((Below.refl w.heap.size w).alloc (Nat.le_refl _) _).alloc (by simp) _).drew).trans hbe
  all_goals have hgo : w.heap.size ≤ g ∨ some g = v.ownBlock := hgo0.elim (fun e => Or.inl (by simp at e; omega)) Or.inr
  all_goals have hH1 := hlist_store (hblk.trans (((((Below.refl (hb + 1) w).alloc (by omega) _).alloc (by simp; omega) _).drew.block hb (by omega)).trans h.1)) hp hg
  all_goals clear hp hblk hbe hc1 hf1 c0 f0 hown hgo0
  all_goals have hbel2 := hbel1.setH 0 (.slice (some ⟨g, 0, none⟩) (n + 1) cap)
  all_goals have hw0 := hH1.word
  all_goals go_wp2
  all_goals
    go_loopw [4] (fun i wr => ∃ (k : Nat) (E1 : Nat → Int × Int), k ≤ n ∧ i = .int .i64 k ∧ HList wr hb g cap (n + 1) E1 ∧ (∀ x, Mem E1 (n + 1) x ↔ Mem (upP E n (q, s)) (n + 1) x) ∧ Stays w wr hb v.ownBlock) (fun i _ => (intOf i).toNat)
    case atStart => exact ⟨n, _, Nat.le_refl _, rfl, hH1, fun _ => Iff.rfl, hbel2⟩
    case round =>
      obtain ⟨k, E1, hk, rfl, hH, hmem, hbel⟩ := hrel
      have HM : Hid (∀ x, Mem E1 (n + 1) x ↔ Mem (upP E n (q, s)) (n + 1) x) := hmem
      clear hmem hH1 hbel1 hbel2 hw0 h
      have c0 := hH.word
      have f0 := hH.wfree
      have hlt0 : hb < wr.heap.size := lt_of_cell c0
      have hlt1 : g < wr.heap.size := hH.2.1.lt
      by_cases h1 : 0 < k
      rotate_left
      · have hk0 : k = 0 := by omega
        subst hk0
        go_wp2
        simp [bodyPost, results, Tryz.results65, go_sem]
        exact ⟨g, cap, E1, hH, fun a b => HM.out (a, b), hbel, hgo⟩
      obtain ⟨o, ho⟩ : ∃ o : Nat, o = (k - 1) / 2 := ⟨_, rfl⟩
      have hok : o < k := by omega
      have hk0 : k < n + 1 := by omega
      have hu0 : o < n + 1 := by omega
      obtain ⟨a0, a1⟩ := hH.2.1.cells hk0
      obtain ⟨b0, b1⟩ := hH.2.1.cells hu0
      have hw1 : IntKind.i64.wrap ((k : Int) - 1) = (k : Int) - 1 := by rw [IntKind.wrap_i64]; omega
      have hov : Int.tdiv ((k : Int) - 1) 2 = (o : Int) := by rw [Int.tdiv_eq_ediv_of_nonneg (by omega)]; omega
      have hx1 : (k : Int) < (n : Int) + 1 := by omega
      have hx2 : (o : Int) < (n : Int) + 1 := by omega
      clear ho
      go_wp2
      by_cases hA : (E1 k).2 < (E1 o).2
      · have hAd : decide ((E1 k).2 < (E1 o).2) = true := by simpa using hA
        go_region_held3 (fun w' => w'.cell? ⟨hb, 0, none⟩ = some (.slice (some ⟨g, 0, none⟩) (n + 1) cap) ∧ w'.cell? ⟨g, k * 2, none⟩ = some (.int .i64 (E1 k).1) ∧ w'.cell? ⟨g, k * 2 + 1, none⟩ = some (.int .i64 (E1 k).2) ∧ w'.cell? ⟨g, o * 2, none⟩ = some (.int .i64 (E1 o).1) ∧ w'.cell? ⟨g, o * 2 + 1, none⟩ = some (.int .i64 (E1 o).2))
          (first | (go_split_ands; refine ⟨?_, ?_, ?_, ?_, ?_⟩ <;> exact keep_cell ‹_› (Nat.le_refl _) (by assumption)) | go_keep)
          (first | (go_at_call 155; refine (ahead_any _ _ _ _ _).mono ?_; rintro e wz ⟨rfl, hbz⟩))
        have hS := (hH.drewN _).below hbz (Nat.le_refl _)
        have hT := (hbel.drewN _).next hbz
        have e0 := hS.word
        have e1 := hS.wfree
        obtain ⟨p0, p1⟩ := hS.2.1.cells hk0
        obtain ⟨q0, q1⟩ := hS.2.1.cells hu0
        have z0 := hS.2.1.frozen (k * 2)
        have z1 := hS.2.1.frozen (k * 2 + 1)
        have z2 := hS.2.1.frozen (o * 2)
        have z3 := hS.2.1.frozen (o * 2 + 1)
        have PK : Hid (HList wz hb g cap (n + 1) E1 ∧ Stays w wz hb v.ownBlock ∧ ∀ x, Mem E1 (n + 1) x ↔ Mem (upP E n (q, s)) (n + 1) x) := ⟨hS, hT, HM.out⟩
        have hgb : g ≠ hb := Nat.ne_of_gt hS.2.2
        clear hbz mA mE hS hT HM hH hbel c0 f0 hlt0 hlt1 a0 a1 b0 b1 hA hAd
        have n1 : ¬ (o * 2 = k * 2) := by omega
        have n2 : ¬ (o * 2 = k * 2 + 1) := by omega
        have n3 : ¬ (o * 2 + 1 = k * 2) := by omega
        have n4 : ¬ (o * 2 + 1 = k * 2 + 1) := by omega
        go_wp2
        go_big_region
        obtain ⟨hS, hT, HM⟩ := PK.out
        have R := ((hS.put2 hk0 (E1 o).1 (E1 o).2).put2 hu0 (E1 k).1 (E1 k).2).drew1
        have B := ((((hT.setG (k * 2) hgo (.int .i64 (E1 o).1)).setG (k * 2 + 1) hgo (.int .i64 (E1 o).2)).setG (o * 2) hgo (.int .i64 (E1 k).1)).setG (o * 2 + 1) hgo (.int .i64 (E1 k).2)).drew1
        have M : ∀ x, Mem (swp E1 k o) (n + 1) x ↔ Mem (upP E n (q, s)) (n + 1) x := fun x => (mem_swp hk0 hu0 x).trans (HM x)
        clear PK hS hT HM e0 e1 p0 p1 q0 q1 z0 z1 z2 z3 n1 n2 n3 n4
        go_wp2
        go_roundw
        case rel => exact ⟨o, swp E1 k o, by omega, by go_num, R, M, B⟩
        case measure => simp [intOf]; omega
      · have hAd : decide ((E1 k).2 < (E1 o).2) = false := by simpa using hA
        go_region_held3 (fun w' => w'.cell? ⟨hb, 0, none⟩ = some (.slice (some ⟨g, 0, none⟩) (n + 1) cap) ∧ w'.cell? ⟨g, k * 2, none⟩ = some (.int .i64 (E1 k).1) ∧ w'.cell? ⟨g, k * 2 + 1, none⟩ = some (.int .i64 (E1 k).2) ∧ w'.cell? ⟨g, o * 2, none⟩ = some (.int .i64 (E1 o).1) ∧ w'.cell? ⟨g, o * 2 + 1, none⟩ = some (.int .i64 (E1 o).2))
          (first | (go_split_ands; refine ⟨?_, ?_, ?_, ?_, ?_⟩ <;> exact keep_cell ‹_› (Nat.le_refl _) (by assumption)) | go_keep)
          (first | (go_at_call 155; refine (ahead_any _ _ _ _ _).mono ?_; rintro e wz ⟨rfl, hbz⟩))
        have hS := (hH.drewN _).below hbz (Nat.le_refl _)
        have hT := (hbel.drewN _).next hbz
        go_wp2
        simp [bodyPost, results, Tryz.results65, go_sem]
        exact ⟨g, cap, E1, hS, fun a b => HM.out (a, b), hT, hgo⟩
set_option maxRecDepth 1000000 in
set_option maxHeartbeats 4000000 in
theorem sink_any (hb g cap n : Nat) (E : Nat → Int × Int) (hn : n ≤ 1000000000) (w : World) (h : HList w hb g cap n E) :
    Calls Tryz.prog 89 #[.pointer (some ⟨hb, 0, none⟩)] w fun e w' => e = .returned (.tuple #[]) ∧ ∃ E', HList w' hb g cap n E' ∧ (∀ x, Mem E' n x ↔ Mem E n x) ∧ Stays w w' hb (some g) := by
  have mA := ahead_at
  have mE := ahead_enters
  go_enter Tryz.func89, Tryz.ntmps89
  go_wp2
  go_loopw [2] (fun i wr => ∃ (k : Nat) (E1 : Nat → Int × Int), k ≤ n ∧ i = .int .i64 k ∧ HList wr hb g cap n E1 ∧ (∀ x, Mem E1 n x ↔ Mem E n x) ∧ Stays w wr hb (some g)) (fun i _ => n - (intOf i).toNat)
  case atStart => exact ⟨0, E, Nat.zero_le _, rfl, h, fun _ => Iff.rfl, Stays.refl _ _ _⟩
  case round =>
    obtain ⟨k, E1, hk, rfl, hH, hmem, hbel⟩ := hrel
    have HM : Hid (∀ x, Mem E1 n x ↔ Mem E n x) := hmem
    clear hmem
    have c0 := hH.word
    have f0 := hH.wfree
    have hlt0 : hb < wr.heap.size := lt_of_cell c0
    have hlt1 : g < wr.heap.size := hH.2.1.lt
    by_cases h1 : n ≤ 2 * k + 1
    · have hc1 : (n : Int) ≤ 2 * (k : Int) + 1 := by omega
      go_wp2
      simp [bodyPost, results, Tryz.results89, go_sem]
      exact ⟨E1, hH, fun a b => HM.out (a, b), hbel⟩
    have hc1 : ¬ (n : Int) ≤ 2 * (k : Int) + 1 := by omega
    have hk0 : k < n := by omega
    have hu0 : 2 * k + 1 < n := by omega
    obtain ⟨a0, a1⟩ := hH.2.1.cells hk0
    obtain ⟨b0, b1⟩ := hH.2.1.cells hu0
    have ht1 : (2 * (k : Int) + 1).toNat = 2 * k + 1 := by omega
    have hx1 : (0 : Int) ≤ 2 * (k : Int) + 1 := by omega
    have hx2 : 2 * (k : Int) + 1 < (n : Int) := by omega
    by_cases h2 : n ≤ 2 * k + 2
    · have hc2 : decide (2 * (k : Int) + 1 + 1 < (n : Int)) = false := by simp; omega
      go_wp2
      go_quiet (fail)
      go_wp2
      by_cases hA : (E1 (2 * k + 1)).2 < (E1 k).2
      · have hAd : decide ((E1 (2 * k + 1)).2 < (E1 k).2) = true := by simpa using hA
        go_region_held3 (fun w' => w'.cell? ⟨hb, 0, none⟩ = some (.slice (some ⟨g, 0, none⟩) n cap) ∧ w'.cell? ⟨g, k * 2, none⟩ = some (.int .i64 (E1 k).1) ∧ w'.cell? ⟨g, k * 2 + 1, none⟩ = some (.int .i64 (E1 k).2) ∧ w'.cell? ⟨g, (2 * k + 1) * 2, none⟩ = some (.int .i64 (E1 (2 * k + 1)).1) ∧ w'.cell? ⟨g, (2 * k + 1) * 2 + 1, none⟩ = some (.int .i64 (E1 (2 * k + 1)).2))
          (first | (go_split_ands; refine ⟨?_, ?_, ?_, ?_, ?_⟩ <;> exact keep_cell ‹_› (Nat.le_refl _) (by assumption)) | go_keep)
          (first | (go_at_call 155; refine (ahead_any _ _ _ _ _).mono ?_; rintro e wz ⟨rfl, hbz⟩))
        have hS := (hH.drewN _).below hbz (Nat.le_refl _)
        have hT := (hbel.drewN _).next hbz
        have e0 := hS.word
        have e1 := hS.wfree
        obtain ⟨p0, p1⟩ := hS.2.1.cells hk0
        obtain ⟨q0, q1⟩ := hS.2.1.cells hu0
        have z0 := hS.2.1.frozen (k * 2)
        have z1 := hS.2.1.frozen (k * 2 + 1)
        have z2 := hS.2.1.frozen ((2 * k + 1) * 2)
        have z3 := hS.2.1.frozen ((2 * k + 1) * 2 + 1)
        have PK : Hid (HList wz hb g cap n E1 ∧ Stays w wz hb (some g) ∧ ∀ x, Mem E1 n x ↔ Mem E n x) := ⟨hS, hT, HM.out⟩
        have hgb : g ≠ hb := Nat.ne_of_gt hS.2.2
        have hkn : (k : Int) < (n : Int) := by omega
        clear hbz mA mE hS hT HM hH hbel c0 f0 hlt0 hlt1 a0 a1 b0 b1 h1 hc1 h2 hc2 hA hAd h hk 
        have n1 : ¬ ((2 * k + 1) * 2 = k * 2) := by omega
        have n2 : ¬ ((2 * k + 1) * 2 = k * 2 + 1) := by omega
        have n3 : ¬ ((2 * k + 1) * 2 + 1 = k * 2) := by omega
        have n4 : ¬ ((2 * k + 1) * 2 + 1 = k * 2 + 1) := by omega
        go_wp2
        go_big_region
        obtain ⟨hS, hT, HM⟩ := PK.out
        have R := ((hS.put2 hk0 (E1 (2 * k + 1)).1 (E1 (2 * k + 1)).2).put2 hu0 (E1 k).1 (E1 k).2).drew1
        have B := ((((hT.setG (k * 2) (Or.inr rfl) (.int .i64 (E1 (2 * k + 1)).1)).setG (k * 2 + 1) (Or.inr rfl) (.int .i64 (E1 (2 * k + 1)).2)).setG ((2 * k + 1) * 2) (Or.inr rfl) (.int .i64 (E1 k).1)).setG ((2 * k + 1) * 2 + 1) (Or.inr rfl) (.int .i64 (E1 k).2)).drew1
        have M : ∀ x, Mem (swp E1 k (2 * k + 1)) n x ↔ Mem E n x := fun x => (mem_swp hk0 hu0 x).trans (HM x)
        clear PK hS hT HM e0 e1 p0 p1 q0 q1 z0 z1 z2 z3 n1 n2 n3 n4
        go_wp2
        go_roundw
        case rel => exact ⟨(2 * k + 1), swp E1 k (2 * k + 1), by omega, by go_num, R, M, B⟩
        case measure => simp [intOf]; omega
      · have hAd : decide ((E1 (2 * k + 1)).2 < (E1 k).2) = false := by simpa using hA
        go_region_held3 (fun w' => w'.cell? ⟨hb, 0, none⟩ = some (.slice (some ⟨g, 0, none⟩) n cap) ∧ w'.cell? ⟨g, k * 2, none⟩ = some (.int .i64 (E1 k).1) ∧ w'.cell? ⟨g, k * 2 + 1, none⟩ = some (.int .i64 (E1 k).2) ∧ w'.cell? ⟨g, (2 * k + 1) * 2, none⟩ = some (.int .i64 (E1 (2 * k + 1)).1) ∧ w'.cell? ⟨g, (2 * k + 1) * 2 + 1, none⟩ = some (.int .i64 (E1 (2 * k + 1)).2))
          (first | (go_split_ands; refine ⟨?_, ?_, ?_, ?_, ?_⟩ <;> exact keep_cell ‹_› (Nat.le_refl _) (by assumption)) | go_keep)
          (first | (go_at_call 155; refine (ahead_any _ _ _ _ _).mono ?_; rintro e wz ⟨rfl, hbz⟩))
        have hS := (hH.drewN _).below hbz (Nat.le_refl _)
        have hT := (hbel.drewN _).next hbz
        go_wp2
        simp [bodyPost, results, Tryz.results89, go_sem]
        exact ⟨E1, hS, fun a b => HM.out (a, b), hT⟩
    have hc2 : decide (2 * (k : Int) + 1 + 1 < (n : Int)) = true := by simp; omega
    have hc3 : 2 * (k : Int) + 1 + 1 < (n : Int) := by omega
    have hwr : IntKind.i64.wrap (2 * (k : Int) + 1 + 1) = 2 * (k : Int) + 1 + 1 := by rw [IntKind.wrap_i64]; omega
    have hu2 : 2 * k + 2 < n := by omega
    obtain ⟨d0, d1⟩ := hH.2.1.cells hu2
    have ht2 : (2 * (k : Int) + 1 + 1).toNat = 2 * k + 2 := by omega
    have hx3 : (0 : Int) ≤ 2 * (k : Int) + 1 + 1 := by omega
    by_cases hB : (E1 (2 * k + 2)).2 < (E1 (2 * k + 1)).2
    · have hBd : decide ((E1 (2 * k + 2)).2 < (E1 (2 * k + 1)).2) = true := by simpa using hB
      go_wp2
      go_region_held3 (fun w' => w'.cell? ⟨hb, 0, none⟩ = some (.slice (some ⟨g, 0, none⟩) n cap) ∧ w'.cell? ⟨g, (2 * k + 1) * 2, none⟩ = some (.int .i64 (E1 (2 * k + 1)).1) ∧ w'.cell? ⟨g, (2 * k + 1) * 2 + 1, none⟩ = some (.int .i64 (E1 (2 * k + 1)).2) ∧ w'.cell? ⟨g, (2 * k + 2) * 2, none⟩ = some (.int .i64 (E1 (2 * k + 2)).1) ∧ w'.cell? ⟨g, (2 * k + 2) * 2 + 1, none⟩ = some (.int .i64 (E1 (2 * k + 2)).2))
        (first | (go_split_ands; refine ⟨?_, ?_, ?_, ?_, ?_⟩ <;> exact keep_cell ‹_› (Nat.le_refl _) (by assumption)) | go_keep)
        (first | (go_at_call 155; refine (ahead_any _ _ _ _ _).mono ?_; rintro e wy ⟨rfl, hby⟩))
      have hHy := (hH.drewN _).below hby (Nat.le_refl _)
      have hbely := (hbel.drewN _).next hby
      have c0y := hHy.word
      have f0y := hHy.wfree
      obtain ⟨a0y, a1y⟩ := hHy.2.1.cells hk0
      obtain ⟨b0y, b1y⟩ := hHy.2.1.cells hu2
      clear hby hBd hB
      go_wp2
      by_cases hA : (E1 (2 * k + 2)).2 < (E1 k).2
      · have hAd : decide ((E1 (2 * k + 2)).2 < (E1 k).2) = true := by simpa using hA
        go_region_held3 (fun w' => w'.cell? ⟨hb, 0, none⟩ = some (.slice (some ⟨g, 0, none⟩) n cap) ∧ w'.cell? ⟨g, k * 2, none⟩ = some (.int .i64 (E1 k).1) ∧ w'.cell? ⟨g, k * 2 + 1, none⟩ = some (.int .i64 (E1 k).2) ∧ w'.cell? ⟨g, (2 * k + 2) * 2, none⟩ = some (.int .i64 (E1 (2 * k + 2)).1) ∧ w'.cell? ⟨g, (2 * k + 2) * 2 + 1, none⟩ = some (.int .i64 (E1 (2 * k + 2)).2))
          (first | (go_split_ands; refine ⟨?_, ?_, ?_, ?_, ?_⟩ <;> exact keep_cell ‹_› (Nat.le_refl _) (by assumption)) | go_keep)
          (first | (go_at_call 155; refine (ahead_any _ _ _ _ _).mono ?_; rintro e wz ⟨rfl, hbz⟩))
        have hS := (hHy.drewN _).below hbz (Nat.le_refl _)
        have hT := (hbely.drewN _).next hbz
        have e0 := hS.word
        have e1 := hS.wfree
        obtain ⟨p0, p1⟩ := hS.2.1.cells hk0
        obtain ⟨q0, q1⟩ := hS.2.1.cells hu2
        have z0 := hS.2.1.frozen (k * 2)
        have z1 := hS.2.1.frozen (k * 2 + 1)
        have z2 := hS.2.1.frozen ((2 * k + 2) * 2)
        have z3 := hS.2.1.frozen ((2 * k + 2) * 2 + 1)
        have PK : Hid (HList wz hb g cap n E1 ∧ Stays w wz hb (some g) ∧ ∀ x, Mem E1 n x ↔ Mem E n x) := ⟨hS, hT, HM.out⟩
        have hgb : g ≠ hb := Nat.ne_of_gt hS.2.2
        have hkn : (k : Int) < (n : Int) := by omega
        clear hbz mA mE hS hT HM hH hHy hbel hbely c0 f0 c0y f0y a0y a1y b0y b1y hlt0 hlt1 a0 a1 b0 b1 d0 d1 hc3 h1 hc1 h2 hc2 hA hAd h hk 
        have n1 : ¬ ((2 * k + 2) * 2 = k * 2) := by omega
        have n2 : ¬ ((2 * k + 2) * 2 = k * 2 + 1) := by omega
        have n3 : ¬ ((2 * k + 2) * 2 + 1 = k * 2) := by omega
        have n4 : ¬ ((2 * k + 2) * 2 + 1 = k * 2 + 1) := by omega
        go_wp2
        go_big_region
        obtain ⟨hS, hT, HM⟩ := PK.out
        have R := ((hS.put2 hk0 (E1 (2 * k + 2)).1 (E1 (2 * k + 2)).2).put2 hu2 (E1 k).1 (E1 k).2).drew1
        have B := ((((hT.setG (k * 2) (Or.inr rfl) (.int .i64 (E1 (2 * k + 2)).1)).setG (k * 2 + 1) (Or.inr rfl) (.int .i64 (E1 (2 * k + 2)).2)).setG ((2 * k + 2) * 2) (Or.inr rfl) (.int .i64 (E1 k).1)).setG ((2 * k + 2) * 2 + 1) (Or.inr rfl) (.int .i64 (E1 k).2)).drew1
        have M : ∀ x, Mem (swp E1 k (2 * k + 2)) n x ↔ Mem E n x := fun x => (mem_swp hk0 hu2 x).trans (HM x)
        clear PK hS hT HM e0 e1 p0 p1 q0 q1 z0 z1 z2 z3 n1 n2 n3 n4
        go_wp2
        go_roundw
        case rel => exact ⟨(2 * k + 2), swp E1 k (2 * k + 2), by omega, by go_num, R, M, B⟩
        case measure => simp [intOf]; omega
      · have hAd : decide ((E1 (2 * k + 2)).2 < (E1 k).2) = false := by simpa using hA
        go_region_held3 (fun w' => w'.cell? ⟨hb, 0, none⟩ = some (.slice (some ⟨g, 0, none⟩) n cap) ∧ w'.cell? ⟨g, k * 2, none⟩ = some (.int .i64 (E1 k).1) ∧ w'.cell? ⟨g, k * 2 + 1, none⟩ = some (.int .i64 (E1 k).2) ∧ w'.cell? ⟨g, (2 * k + 2) * 2, none⟩ = some (.int .i64 (E1 (2 * k + 2)).1) ∧ w'.cell? ⟨g, (2 * k + 2) * 2 + 1, none⟩ = some (.int .i64 (E1 (2 * k + 2)).2))
          (first | (go_split_ands; refine ⟨?_, ?_, ?_, ?_, ?_⟩ <;> exact keep_cell ‹_› (Nat.le_refl _) (by assumption)) | go_keep)
          (first | (go_at_call 155; refine (ahead_any _ _ _ _ _).mono ?_; rintro e wz ⟨rfl, hbz⟩))
        have hS := (hHy.drewN _).below hbz (Nat.le_refl _)
        have hT := (hbely.drewN _).next hbz
        go_wp2
        simp [bodyPost, results, Tryz.results89, go_sem]
        exact ⟨E1, hS, fun a b => HM.out (a, b), hT⟩
    · have hBd : decide ((E1 (2 * k + 2)).2 < (E1 (2 * k + 1)).2) = false := by simpa using hB
      go_wp2
      go_region_held3 (fun w' => w'.cell? ⟨hb, 0, none⟩ = some (.slice (some ⟨g, 0, none⟩) n cap) ∧ w'.cell? ⟨g, (2 * k + 1) * 2, none⟩ = some (.int .i64 (E1 (2 * k + 1)).1) ∧ w'.cell? ⟨g, (2 * k + 1) * 2 + 1, none⟩ = some (.int .i64 (E1 (2 * k + 1)).2) ∧ w'.cell? ⟨g, (2 * k + 2) * 2, none⟩ = some (.int .i64 (E1 (2 * k + 2)).1) ∧ w'.cell? ⟨g, (2 * k + 2) * 2 + 1, none⟩ = some (.int .i64 (E1 (2 * k + 2)).2))
        (first | (go_split_ands; refine ⟨?_, ?_, ?_, ?_, ?_⟩ <;> exact keep_cell ‹_› (Nat.le_refl _) (by assumption)) | go_keep)
        (first | (go_at_call 155; refine (ahead_any _ _ _ _ _).mono ?_; rintro e wy ⟨rfl, hby⟩))
      have hHy := (hH.drewN _).below hby (Nat.le_refl _)
      have hbely := (hbel.drewN _).next hby
      have c0y := hHy.word
      have f0y := hHy.wfree
      obtain ⟨a0y, a1y⟩ := hHy.2.1.cells hk0
      obtain ⟨b0y, b1y⟩ := hHy.2.1.cells hu0
      clear hby hBd hB
      go_wp2
      by_cases hA : (E1 (2 * k + 1)).2 < (E1 k).2
      · have hAd : decide ((E1 (2 * k + 1)).2 < (E1 k).2) = true := by simpa using hA
        go_region_held3 (fun w' => w'.cell? ⟨hb, 0, none⟩ = some (.slice (some ⟨g, 0, none⟩) n cap) ∧ w'.cell? ⟨g, k * 2, none⟩ = some (.int .i64 (E1 k).1) ∧ w'.cell? ⟨g, k * 2 + 1, none⟩ = some (.int .i64 (E1 k).2) ∧ w'.cell? ⟨g, (2 * k + 1) * 2, none⟩ = some (.int .i64 (E1 (2 * k + 1)).1) ∧ w'.cell? ⟨g, (2 * k + 1) * 2 + 1, none⟩ = some (.int .i64 (E1 (2 * k + 1)).2))
          (first | (go_split_ands; refine ⟨?_, ?_, ?_, ?_, ?_⟩ <;> exact keep_cell ‹_› (Nat.le_refl _) (by assumption)) | go_keep)
          (first | (go_at_call 155; refine (ahead_any _ _ _ _ _).mono ?_; rintro e wz ⟨rfl, hbz⟩))
        have hS := (hHy.drewN _).below hbz (Nat.le_refl _)
        have hT := (hbely.drewN _).next hbz
        have e0 := hS.word
        have e1 := hS.wfree
        obtain ⟨p0, p1⟩ := hS.2.1.cells hk0
        obtain ⟨q0, q1⟩ := hS.2.1.cells hu0
        have z0 := hS.2.1.frozen (k * 2)
        have z1 := hS.2.1.frozen (k * 2 + 1)
        have z2 := hS.2.1.frozen ((2 * k + 1) * 2)
        have z3 := hS.2.1.frozen ((2 * k + 1) * 2 + 1)
        have PK : Hid (HList wz hb g cap n E1 ∧ Stays w wz hb (some g) ∧ ∀ x, Mem E1 n x ↔ Mem E n x) := ⟨hS, hT, HM.out⟩
        have hgb : g ≠ hb := Nat.ne_of_gt hS.2.2
        have hkn : (k : Int) < (n : Int) := by omega
        clear hbz mA mE hS hT HM hH hHy hbel hbely c0 f0 c0y f0y a0y a1y b0y b1y hlt0 hlt1 a0 a1 b0 b1 d0 d1 hc3 h1 hc1 h2 hc2 hA hAd h hk 
        have n1 : ¬ ((2 * k + 1) * 2 = k * 2) := by omega
        have n2 : ¬ ((2 * k + 1) * 2 = k * 2 + 1) := by omega
        have n3 : ¬ ((2 * k + 1) * 2 + 1 = k * 2) := by omega
        have n4 : ¬ ((2 * k + 1) * 2 + 1 = k * 2 + 1) := by omega
        go_wp2
        go_big_region
        obtain ⟨hS, hT, HM⟩ := PK.out
        have R := ((hS.put2 hk0 (E1 (2 * k + 1)).1 (E1 (2 * k + 1)).2).put2 hu0 (E1 k).1 (E1 k).2).drew1
        have B := ((((hT.setG (k * 2) (Or.inr rfl) (.int .i64 (E1 (2 * k + 1)).1)).setG (k * 2 + 1) (Or.inr rfl) (.int .i64 (E1 (2 * k + 1)).2)).setG ((2 * k + 1) * 2) (Or.inr rfl) (.int .i64 (E1 k).1)).setG ((2 * k + 1) * 2 + 1) (Or.inr rfl) (.int .i64 (E1 k).2)).drew1
        have M : ∀ x, Mem (swp E1 k (2 * k + 1)) n x ↔ Mem E n x := fun x => (mem_swp hk0 hu0 x).trans (HM x)
        clear PK hS hT HM e0 e1 p0 p1 q0 q1 z0 z1 z2 z3 n1 n2 n3 n4
        go_wp2
        go_roundw
        case rel => exact ⟨(2 * k + 1), swp E1 k (2 * k + 1), by omega, by go_num, R, M, B⟩
        case measure => simp [intOf]; omega
      · have hAd : decide ((E1 (2 * k + 1)).2 < (E1 k).2) = false := by simpa using hA
        go_region_held3 (fun w' => w'.cell? ⟨hb, 0, none⟩ = some (.slice (some ⟨g, 0, none⟩) n cap) ∧ w'.cell? ⟨g, k * 2, none⟩ = some (.int .i64 (E1 k).1) ∧ w'.cell? ⟨g, k * 2 + 1, none⟩ = some (.int .i64 (E1 k).2) ∧ w'.cell? ⟨g, (2 * k + 1) * 2, none⟩ = some (.int .i64 (E1 (2 * k + 1)).1) ∧ w'.cell? ⟨g, (2 * k + 1) * 2 + 1, none⟩ = some (.int .i64 (E1 (2 * k + 1)).2))
          (first | (go_split_ands; refine ⟨?_, ?_, ?_, ?_, ?_⟩ <;> exact keep_cell ‹_› (Nat.le_refl _) (by assumption)) | go_keep)
          (first | (go_at_call 155; refine (ahead_any _ _ _ _ _).mono ?_; rintro e wz ⟨rfl, hbz⟩))
        have hS := (hHy.drewN _).below hbz (Nat.le_refl _)
        have hT := (hbely.drewN _).next hbz
        go_wp2
        simp [bodyPost, results, Tryz.results89, go_sem]
        exact ⟨E1, hS, fun a b => HM.out (a, b), hT⟩
theorem HList.cut {w : World} {hb g cap n : Nat} {E : Nat → Int × Int} (h : HList w hb g cap (n + 1) E) : HList (w.setCell ⟨hb, 0, none⟩ (.slice (some ⟨g, 0, none⟩) n cap)) hb g cap n E :=
  ⟨by simp [World.setCell, Array.getElem?_modify, h.1], (h.2.1.less (Nat.le_succ n)).of_block (Below.heap_setCell _ _ _ _ (Nat.ne_of_gt h.2.2)), h.2.2⟩
theorem HList.put0 {w : World} {hb g cap n : Nat} {E : Nat → Int × Int} (h : HList w hb g cap (n + 1) E) (x y : Int) :
    HList ((w.setCell ⟨g, 0, none⟩ (.int .i64 x)).setCell ⟨g, 1, none⟩ (.int .i64 y)) hb g cap (n + 1) (upP E 0 (x, y)) := by
  have := h.put2 (k := 0) (by omega) x y
  simpa using this
theorem HList.aside {w : World} {hb g cap n b o : Nat} {v : Value} {E : Nat → Int × Int} (h : HList w hb g cap n E) (h1 : b ≠ hb) (h2 : b ≠ g) : HList (w.setCell ⟨b, o, none⟩ v) hb g cap n E :=
  ⟨(Below.heap_setCell _ _ _ _ (fun e => h1 (by simpa using e.symm))).trans h.1, h.2.1.of_block (Below.heap_setCell _ _ _ _ (fun e => h2 (by simpa using e.symm))), h.2.2⟩
theorem Stays.frozen {w w1 : World} {hb b o : Nat} {ob : Option Nat} {v : Bool} (h : Stays w w1 hb ob) (h1 : b ≠ hb) (h2 : some b ≠ ob) (hl : b < w.heap.size) (hc : w.frozen? ⟨b, o, none⟩ = v) : w1.frozen? ⟨b, o, none⟩ = v :=
  (World.frozen?_of_block (h.block b hl h1 h2)).trans hc
set_option maxRecDepth 1000000 in
set_option maxHeartbeats 4000000 in
theorem take_any (hb g cap n : Nat) (E : Nat → Int × Int) (hn : n ≤ 1000000000) (w : World) (h : HList w hb g cap (n + 1) E) :
    Calls Tryz.prog 66 #[.pointer (some ⟨hb, 0, none⟩)] w fun e w' => e = .returned (.agg #[.int .i64 (E 0).1, .int .i64 (E 0).2]) ∧ ∃ E', HList w' hb g cap n E' ∧ (∀ x, Mem E' n x ↔ Mem (upP E 0 (E n)) n x) ∧ Stays w w' hb (some g) := by
  have c0 := h.word
  have f0 := h.wfree
  have hlt0 : hb < w.heap.size := lt_of_cell c0
  have hlt1 : g < w.heap.size := h.2.1.lt
  have hgb : g ≠ hb := Nat.ne_of_gt h.2.2
  obtain ⟨a0, a1⟩ := h.2.1.cells (k := 0) (by omega)
  obtain ⟨b0, b1⟩ := h.2.1.cells (k := n) (by omega)
  simp only [Nat.zero_mul, Nat.zero_add] at a0 a1
  have z0 := h.2.1.frozen 0
  have z1 := h.2.1.frozen 1
  have hcap : n + 1 ≤ cap := by obtain ⟨_, _, _, hc, _⟩ := h.2.1; exact hc
  go_enter Tryz.func66, Tryz.ntmps66
  have PK : Hid (HList w hb g cap (n + 1) E) := h
  clear h
  have hx1 : (n : Int) < (n : Int) + 1 := by omega
  have hx2 : (n : Int) ≤ (cap : Int) := by omega
  go_wp2
  go_big_region
  go_wp2_with fail
  have h := PK.out
  have h3 := ((((h.put0 (E n).1 (E n).2).cut).below ((Below.refl _ _).alloc (Nat.le_refl _) (.cells #[.int .i64 0, .int .i64 0] 107)) (Nat.le_refl _)).below ((Below.refl _ _).alloc (Nat.le_refl _) (.cells #[.int .i64 (E 0).1, .int .i64 (E 0).2] 107)) (Nat.le_refl _)).drew1
  have st := (((((Stays.refl w hb (some g)).setG 0 (Or.inr rfl) (.int .i64 (E n).1)).setG 1 (Or.inr rfl) (.int .i64 (E n).2)).setH 0 (.slice (some ⟨g, 0, none⟩) n cap)).next ((Below.refl _ _).alloc (Nat.le_refl _) (.cells #[.int .i64 0, .int .i64 0] 107))).next ((Below.refl _ _).alloc (Nat.le_refl _) (.cells #[.int .i64 (E 0).1, .int .i64 (E 0).2] 107))
  have st := st.drew1
  clear h PK a0 a1 b0 b1 z0 z1 c0 f0
  refine (sink_any hb g cap n _ hn _ h3).mono ?_
  rintro e w5 ⟨rfl, E5, hH5, hM5, hS5⟩
  have r0 : w5.cell? ⟨w.heap.size, 0, none⟩ = some (.int .i64 0) := hS5.cell (by omega) (by simp; omega) (by simp [go_sem])
  have r1 : w5.cell? ⟨w.heap.size, 1, none⟩ = some (.int .i64 0) := hS5.cell (by omega) (by simp; omega) (by simp [go_sem])
  have t0 : w5.cell? ⟨w.heap.size + 1, 0, none⟩ = some (.int .i64 (E 0).1) := hS5.cell (by omega) (by simp; omega) (by simp [go_sem])
  have t1 : w5.cell? ⟨w.heap.size + 1, 1, none⟩ = some (.int .i64 (E 0).2) := hS5.cell (by omega) (by simp; omega) (by simp [go_sem])
  have y0 : w5.frozen? ⟨w.heap.size, 0, none⟩ = false := hS5.frozen (by omega) (by simp; omega) (by simp; omega) (by simp [go_sem])
  have y1 : w5.frozen? ⟨w.heap.size, 1, none⟩ = false := hS5.frozen (by omega) (by simp; omega) (by simp; omega) (by simp [go_sem])
  have hF := (hH5.aside (b := w.heap.size) (o := 0) (v := .int .i64 (E 0).1) (by omega) (by omega)).aside (b := w.heap.size) (o := 1) (v := .int .i64 (E 0).2) (by omega) (by omega)
  have hG := ((st.trans hS5).setG 0 (Or.inl (Nat.le_refl w.heap.size)) (.int .i64 (E 0).1)).setG 1 (Or.inl (Nat.le_refl w.heap.size)) (.int .i64 (E 0).2)
  have HM : Hid (∀ x, Mem E5 n x ↔ Mem (upP E 0 (E n)) n x) := hM5
  clear hS5 hH5 hM5 st h3
  go_wp2
  have q0 : (w5.setCell ⟨w.heap.size, 0, none⟩ (.int .i64 (E 0).1)).cell? ⟨w.heap.size, 0, none⟩ = some (.int .i64 (E 0).1) := World.cell?_setCell_same _ _ _ r0
  have q1 : ((w5.setCell ⟨w.heap.size, 0, none⟩ (.int .i64 (E 0).1)).setCell ⟨w.heap.size, 1, none⟩ (.int .i64 (E 0).2)).cell? ⟨w.heap.size, 1, none⟩ = some (.int .i64 (E 0).2) := World.cell?_setCell_same _ _ _ (by rw [World.cell?_setCell_other _ _ _ _ (by simp)]; exact r1)
  simp [bodyPost, results, Tryz.results66, go_sem, q0, q1]
  exact ⟨E5, hF, fun a b => HM.out (a, b), hG⟩
end
end Go.Proofs.YthmpliljffmmcaaGreatDoor
