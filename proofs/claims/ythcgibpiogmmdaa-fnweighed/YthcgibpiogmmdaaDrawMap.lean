/-
  The document's drawn maps: some map comes, in new memory; nothing that lay has turned but the cursor.
-/
import Derived.Test.YthcgibpiogmmdaaDraw
import Derived.Test.YthcgibpiogmmdaaMark
import Derived.Deep.RegionLaw
set_option linter.unusedVariables false
set_option linter.unusedSimpArgs false
namespace Go.Proofs.Ythcgibpiogmmdaa
open Go.RowKit Go.Maps
attribute [local go_sem ↓] Go.wp_at_zero Go.wp_at_succ

theorem l1From_any (base c : Nat) (ao : Option Addr) (n cap : Nat) (w : World) (hC : CurAt w base c ao n cap) :
    Calls Try.prog 85 #[.pointer (some ⟨c, 0, none⟩), .int .i64 (-1), .int .i64 9] w fun e w' => ∃ x : Int, e = .returned (.int .i64 x) ∧ (-1 ≤ x ∧ x ≤ 9) ∧ CurAt w' base c ao n cap ∧ w.grownBy w' (some c) := by
  go_enter Try.func85, Try.ntmps85
  go_wp2_with (go_at_call 53; refine (l1Below_any base c ao n cap _ (by omega) (by omega) _ hC).mono ?_; rintro e w1 ⟨x, rfl, hx, hC1, hg1⟩)
  go_ret
  exact ⟨_, rfl, by omega, hC1, hg1⟩

set_option maxHeartbeats 1000000 in
theorem l1New_any (ao : Option Addr) (n cap : Nat) (hn : n ≤ 4096) (w : World) (hr : ByRow w w.heap.size ao n) :
    Calls Try.prog 42 #[.slice ao n cap] w fun e w' => ∃ c, e = .returned (.pointer (some ⟨c, 0, none⟩)) ∧ CurAt w' w.heap.size c ao n cap ∧ Below w.heap.size w w' := by
  go_enter Try.func42, Try.ntmps42
  go_wp2
  go_loopw [3, 4] (fun x i wr => ∃ (k : Nat) (h : Int), k ≤ n ∧ x = .int .i64 h ∧ i = .int .i64 k ∧ wr = w) (fun _ i _ => n - (intOf i).toNat)
  case atStart => exact ⟨0, _, Nat.zero_le _, rfl, rfl, rfl⟩
  case round =>
    obtain ⟨k, h, hk, rfl, rfl, rfl⟩ := hrel
    by_cases hlt : k < n
    · obtain ⟨b, o, v, hao, hbb, hcb, hv0, hv1⟩ := hr k hlt
      subst hao
      go_wp2
      go_roundw
      case rel => exact ⟨k + 1, _, by omega, rfl, by go_num, by first | trivial | rfl⟩
      case measure => simp [intOf]; omega
    · go_wp2
      go_ret
      refine ⟨_, rfl, ⟨Nat.le_refl _, hn, hr.below ((Below.refl _ _).alloc (Nat.le_refl _) _) (Nat.le_refl _), 0, h, by omega, by omega, ?_⟩, (Below.refl _ _).alloc (Nat.le_refl _) _⟩
      exact ⟨_, Go.Deep.blk_alloc_new _ _, by simp, fun j hj => by
        have : j = 0 ∨ j = 1 ∨ j = 2 := by omega
        rcases this with rfl | rfl | rfl <;> rfl⟩

theorem wfA {x : Int} (h : -9223372036854775808 ≤ x ∧ x ≤ 9223372036854775807) : (Lit.int .i64 x).wf = true := WalkArith.wf_i64 h
theorem wf_wrap (x : Int) : (Lit.int .i64 (IntKind.i64.wrap x)).wf = true := wfA (by rw [IntKind.wrap_i64]; omega)
/-- Some arcs of the call's own, n of them; their numbers fit their kind. -/
def AOwnE (w : World) (base : Nat) (ao : Option Addr) (n cap : Nat) : Prop := ∃ f : Nat → Int, (∀ j, (Lit.int .i64 (f j)).wf = true) ∧ w.ownsRow base 36 3 (.slice ao n cap) n (cellsOf f (n * 3))
theorem AOwnE.grown {w w' : World} {base n cap x : Nat} {ao : Option Addr} (h : AOwnE w base ao n cap) (hg : w.grownBy w' (some x)) (hx : x < base) : AOwnE w' base ao n cap := by
  obtain ⟨f, hw9, hl, h0 | ⟨g, cap', cur, hv, hb, hh, rest⟩⟩ := h
  · exact ⟨f, hw9, hl, .inl h0⟩
  · exact ⟨f, hw9, hl, .inr ⟨g, cap', cur, hv, hb, (hg.block g (Array.getElem?_eq_some_iff.1 hh).1 (by simp; omega)).trans hh, rest⟩⟩
theorem AOwnE.next {w w' : World} {base n cap : Nat} {ao : Option Addr} (h : AOwnE w base ao n cap) (hb : Below w.heap.size w w') : AOwnE w' base ao n cap := by
  obtain ⟨f, hw9, hl, h0 | ⟨g, cap', cur, hv, hb', hh, rest⟩⟩ := h
  · exact ⟨f, hw9, hl, .inl h0⟩
  · exact ⟨f, hw9, hl, .inr ⟨g, cap', cur, hv, hb', (hb.block g (Array.getElem?_eq_some_iff.1 hh).1).trans hh, rest⟩⟩
theorem AOwnE.from {w : World} {base base' n cap : Nat} {ao : Option Addr} (h : AOwnE w base ao n cap) (hb : base' ≤ base) : AOwnE w base' ao n cap := by
  obtain ⟨f, hw9, hl, h0 | ⟨g, cap', cur, hv, hb', rest⟩⟩ := h
  · exact ⟨f, hw9, hl, .inl h0⟩
  · exact ⟨f, hw9, hl, .inr ⟨g, cap', cur, hv, by omega, rest⟩⟩
theorem AOwnE.row {w : World} {base n cap : Nat} {ao : Option Addr} (h : AOwnE w base ao n cap) : ∃ F T G : Nat → Int, Row w ao n F T G ∧ (0 < n → ∃ g, ao = some ⟨g, 0, none⟩ ∧ base ≤ g) := by
  obtain ⟨f, hw9, hl, h0 | ⟨g, cap', cur, hv, hb', hh, h1, h2, h3, h4⟩⟩ := h
  · exact ⟨fun _ => 0, fun _ => 0, fun _ => 0, fun k hk => by omega, fun h => by omega⟩
  · simp at hv
    obtain ⟨rfl, rfl⟩ := hv
    have hc : ∀ j, j < n * 3 → w.cell? ⟨g, j, none⟩ = some (.int .i64 (f j)) := fun j hj => by
      have : (cur.toList.take (n * 3))[j]? = (cellsOf f (n * 3))[j]? := by rw [h4]
      rw [List.getElem?_take_of_lt hj, cellsOf, List.getElem?_map, List.getElem?_range hj] at this
      simp [World.cell?, hh]
      simpa using this
    exact ⟨fun k => f (k * 3), fun k => f (k * 3 + 1), fun k => f (k * 3 + 2), fun k hk => ⟨g, 0, rfl, by simpa using hc (k * 3) (by omega), by simpa using hc (k * 3 + 1) (by omega), by simpa using hc (k * 3 + 2) (by omega)⟩, fun _ => ⟨g, rfl, hb'⟩⟩
theorem AOwnE.rowW {w : World} {base n cap : Nat} {ao : Option Addr} (h : AOwnE w base ao n cap) : ∃ F T G : Nat → Int, Row w ao n F T G ∧ (∀ k, k < n → (Lit.int .i64 (F k)).wf = true ∧ (Lit.int .i64 (T k)).wf = true) ∧ (0 < n → ∃ g, ao = some ⟨g, 0, none⟩ ∧ base ≤ g) := by
  obtain ⟨f, hw9, hl, h0 | ⟨g, cap', cur, hv, hb', hh, h1, h2, h3, h4⟩⟩ := h
  · exact ⟨fun _ => 0, fun _ => 0, fun _ => 0, fun k hk => by omega, fun k hk => by omega, fun h => by omega⟩
  · simp at hv
    obtain ⟨rfl, rfl⟩ := hv
    have hc : ∀ j, j < n * 3 → w.cell? ⟨g, j, none⟩ = some (.int .i64 (f j)) := fun j hj => by
      have : (cur.toList.take (n * 3))[j]? = (cellsOf f (n * 3))[j]? := by rw [h4]
      rw [List.getElem?_take_of_lt hj, cellsOf, List.getElem?_map, List.getElem?_range hj] at this
      simp [World.cell?, hh]
      simpa using this
    exact ⟨fun k => f (k * 3), fun k => f (k * 3 + 1), fun k => f (k * 3 + 2), fun k hk => ⟨g, 0, rfl, by simpa using hc (k * 3) (by omega), by simpa using hc (k * 3 + 1) (by omega), by simpa using hc (k * 3 + 2) (by omega)⟩, fun k _ => ⟨hw9 _, hw9 _⟩, fun _ => ⟨g, rfl, hb'⟩⟩
/-- One arc more. -/
def put3 (f : Nat → Int) (m : Nat) (x y z : Int) (j : Nat) : Int := if j < m then f j else if j = m then x else if j = m + 1 then y else z
theorem put3_wf {f : Nat → Int} {m : Nat} {x y z : Int} (hf : ∀ j, (Lit.int .i64 (f j)).wf = true) (hx : (Lit.int .i64 x).wf = true) (hy : (Lit.int .i64 y).wf = true) (hz : (Lit.int .i64 z).wf = true) (j : Nat) : (Lit.int .i64 (put3 f m x y z j)).wf = true := by
  unfold put3
  split
  · exact hf j
  · split
    · exact hx
    · split
      · exact hy
      · exact hz
theorem cells_put3 (f : Nat → Int) (n : Nat) (x y z : Int) : cellsOf f (n * 3) ++ [.int .i64 x, .int .i64 y, .int .i64 z] = cellsOf (put3 f (n * 3) x y z) ((n + 1) * 3) := by
  have e : (n + 1) * 3 = n * 3 + 1 + 1 + 1 := by omega
  have h0 : cellsOf (put3 f (n * 3) x y z) (n * 3) = cellsOf f (n * 3) := by
    unfold cellsOf
    refine List.map_congr_left fun j hj => ?_
    have := List.mem_range.1 hj
    simp [put3, this]
  have s : ∀ m, cellsOf (put3 f (n * 3) x y z) (m + 1) = cellsOf (put3 f (n * 3) x y z) m ++ [.int .i64 (put3 f (n * 3) x y z m)] := fun m => by
    simp [cellsOf, List.range_succ]
  have g0 : put3 f (n * 3) x y z (n * 3) = x := by simp [put3]
  have g1 : put3 f (n * 3) x y z (n * 3 + 1) = y := by
    unfold put3
    rw [if_neg (by omega), if_neg (by omega), if_pos rfl]
  have g2 : put3 f (n * 3) x y z (n * 3 + 1 + 1) = z := by
    unfold put3
    rw [if_neg (by omega), if_neg (by omega), if_neg (by omega)]
  rw [e, s, s, s, h0, g0, g1, g2]
  simp
theorem news_arc {w : World} {B : Nat} {x y z : Int} {t : TypeId} (hb : w.heap[B]? = some (.cells #[.int .i64 x, .int .i64 y, .int .i64 z] t (0, 0))) : ∀ j u, [Value.int .i64 x, .int .i64 y, .int .i64 z][j]? = some u → w.cell? ((⟨B, 0, none⟩ : Addr).add j) = some u :=
  World.news_of_block hb
theorem one_arc (x y z : Int) : ∀ u ∈ [Value.int .i64 x, .int .i64 y, .int .i64 z], u.oneCell' = true := fun u hu => by
  simp at hu
  rcases hu with rfl | rfl | rfl <;> rfl

/-- The cells of a map in a box. -/
def grV (p : Int) (v : Value) (j : Nat) : Value := if j = 0 then .int .i64 p else v
/-- What stands while a map is drawn: the cursor, the map's box, its arcs. -/
structure DS (w : World) (base c : Nat) (ao : Option Addr) (n cap : Nat) (rb gb : Nat) (p : Int) (go : Option Addr) (k gc : Nat) (W : World) : Prop where
  cur : CurAt W base c ao n cap
  box : VHas W gb 26 2 (grV p (.slice go k gc))
  own : AOwnE W (rb + 1) go k gc
  ne : ∀ a, go = some a → a.block ≠ gb
  res : VHas W rb 26 2 (grV 0 (.slice none 0 0))
  gr : w.grownBy W (some c)
theorem DS.step {w : World} {base c : Nat} {ao : Option Addr} {n cap rb gb : Nat} {p : Int} {go : Option Addr} {k gc : Nat} {W W' : World} (h : DS w base c ao n cap rb gb p go k gc W) (hc : c < rb ∧ rb < gb) (hC : CurAt W' base c ao n cap) (hg : W.grownBy W' (some c)) : DS w base c ao n cap rb gb p go k gc W' :=
  ⟨hC, h.box.grown hg (by simp; omega), h.own.grown hg (by omega), h.ne, h.res.grown hg (by simp; omega), h.gr.trans hg⟩
theorem DS.next {w : World} {base c : Nat} {ao : Option Addr} {n cap rb gb : Nat} {p : Int} {go : Option Addr} {k gc : Nat} {W W' : World} (h : DS w base c ao n cap rb gb p go k gc W) (hb : Below W.heap.size W W') : DS w base c ao n cap rb gb p go k gc W' :=
  ⟨h.cur.next hb, h.box.next hb, h.own.next hb, h.ne, h.res.next hb, h.gr.trans (below_grown hb)⟩
theorem gr_new (w : World) (p : Int) (v : Value) : VHas (w.alloc (.cells #[.int .i64 p, v] 26)) w.heap.size 26 2 (grV p v) :=
  ⟨_, Go.Deep.blk_alloc_new _ _, by simp, fun j hj => by
    have : j = 0 ∨ j = 1 := by omega
    rcases this with rfl | rfl <;> rfl⟩
theorem aown_nil (w : World) (base : Nat) : AOwnE w base none 0 0 := ⟨fun _ => 0, fun _ => wfA (x := 0) (by omega), by simp [cellsOf], .inl ⟨rfl, rfl⟩⟩

/-- A step that turns a block far up alone. -/
theorem gr_far {w W W' : World} {c B : Nat} {row : Option Nat} (h : w.grownBy W (some c)) (hg : W.grownBy W' row) (hr : ∀ g, row = some g → B ≤ g) (hB : w.heap.size ≤ B) : w.grownBy W' (some c) :=
  ⟨hg.os.trans h.os, hg.tape.trans h.tape, hg.output.trans h.output, Nat.le_trans h.size hg.size, fun k hk hne => (hg.block k (Nat.lt_of_lt_of_le hk h.size) (fun e => by have := hr k e.symm; omega)).trans (h.block k hk hne)⟩
theorem CurAt.far {w w' : World} {base c B : Nat} {ao : Option Addr} {n cap : Nat} {row : Option Nat} (h : CurAt w base c ao n cap) (hg : w.grownBy w' row) (hr : ∀ g, row = some g → B ≤ g) (hB : c < B) : CurAt w' base c ao n cap := by
  obtain ⟨i, hh, h0, h1, hv⟩ := h.cur
  have hge := h.ge
  refine ⟨h.ge, h.len, fun k hk => ?_, i, hh, h0, h1, hv.grown hg (fun e => by have := hr c e.symm; omega)⟩
  obtain ⟨b, o, v, e, hb, hc, hv'⟩ := h.by_ k hk
  exact ⟨b, o, v, e, hb, hg.cell hc (fun e => by have := hr b e.symm; omega), hv'⟩
theorem AOwnE.at {w : World} {base n cap x : Nat} {ao : Option Addr} (h : AOwnE w base ao n cap) (e : (Value.slice ao n cap).ownBlock = some x) : base ≤ x ∧ x < w.heap.size := by
  obtain ⟨f, _, hf⟩ := h
  exact World.ownsRow.lt hf x e
theorem own_block {ao : Option Addr} {n cap x : Nat} (e : (Value.slice ao n cap).ownBlock = some x) : ∃ a, ao = some a ∧ a.block = x := by
  cases ao with
  | none => simp [Value.ownBlock] at e
  | some a => exact ⟨a, rfl, by simpa [Value.ownBlock] using e⟩
theorem DS.row {w : World} {base c : Nat} {ao : Option Addr} {n cap rb gb : Nat} {p : Int} {go : Option Addr} {k gc : Nat} {W : World} (h : DS w base c ao n cap rb gb p go k gc W) {x : Nat} (e : (Value.slice go k gc).ownBlock = some x) : rb + 1 ≤ x ∧ x ≠ gb := by
  obtain ⟨a, ha, rfl⟩ := own_block e
  exact ⟨(h.own.at e).1, h.ne a ha⟩
/-- Behind an append to the map's arcs: all but the box's second cell stands. -/
theorem DS.appended {w : World} {base c : Nat} {ao : Option Addr} {n cap rb gb : Nat} {p : Int} {go : Option Addr} {k gc : Nat} {W W' : World} (h : DS w base c ao n cap rb gb p go k gc W) (hc : (c < rb ∧ rb < gb) ∧ w.heap.size ≤ rb) (hg : W.grownBy W' (Value.slice go k gc).ownBlock) {g' k' gc' : Nat} (hown : AOwnE W' (rb + 1) (some ⟨g', 0, none⟩) k' gc') (hat : (Value.slice go k gc).ownBlock = some g' ∨ g' = W.heap.size) :
    DS w base c ao n cap rb gb p (some ⟨g', 0, none⟩) k' gc' (W'.setCell ⟨gb, 1, none⟩ (.slice (some ⟨g', 0, none⟩) k' gc')) := by
  have hr : ∀ g, (Value.slice go k gc).ownBlock = some g → rb + 1 ≤ g := fun g e => (h.row e).1
  have hgl := h.box.lt
  have hng : g' ≠ gb := by
    rcases hat with e | e
    · exact (h.row e).2
    · omega
  have hs := gr_setCell W' gb 1 (.slice (some ⟨g', 0, none⟩) k' gc')
  have hbx := h.box.grown hg (fun e => (h.row e.symm).2 rfl)
  have hge := h.cur.ge
  refine ⟨(h.cur.far hg hr (by omega)).grown hs (by omega) (by omega), (hbx.set 1 _).congr (fun j hj => ?_), ?_, fun a e => by cases e; exact hng, (h.res.grown hg (fun e => by have := hr rb e.symm; omega)).grown hs (by simp; omega), ?_⟩
  · have : j = 0 ∨ j = 1 := by omega
    rcases this with rfl | rfl <;> rfl
  · obtain ⟨f, hw9, hl, h0 | ⟨g, cap', cur, hv, hb, hh, rest⟩⟩ := hown
    · simp at h0
    · have hv' := hv
      simp at hv'
      exact ⟨f, hw9, hl, .inr ⟨g, cap', cur, hv, hb, (hs.block g (Array.getElem?_eq_some_iff.1 hh).1 (by simp; omega)).trans hh, rest⟩⟩
  · have h1 := gr_far h.gr hg hr (by omega)
    exact gr_far (row := some gb) h1 hs (fun g e => by cases e; exact Nat.le_refl _) (by omega)

theorem wp_append_arc {o : Oper} {a : Act} {w : World} {K : Act → World → Prop} {Q : Exit → Act → World → Prop} (s x : Operand)
    (ho : o.op = .call { callee := .builtin .append, args := #[s, x], argTypes := #[24, 24] }) (base k gc : Nat) (go : Option Addr) (hs : a.eval s = .slice go k gc) (hown : AOwnE w base go k gc) (B : Nat) (hx : a.eval x = .slice (some ⟨B, 0, none⟩) 1 1)
    (X Y Z : Int) (hB : w.heap[B]? = some (.cells #[.int .i64 X, .int .i64 Y, .int .i64 Z] 36 (0, 0))) (hk : k ≤ 1000) (hbase : base ≤ w.heap.size) (hX9 : (Lit.int .i64 X).wf = true) (hY9 : (Lit.int .i64 Y).wf = true) (hZ9 : (Lit.int .i64 Z).wf = true)
    (h : ∀ g' gc' w', AOwnE w' base (some ⟨g', 0, none⟩) (k + 1) gc' → w.grownBy w' (Value.slice go k gc).ownBlock → ((Value.slice go k gc).ownBlock = some g' ∨ g' = w.heap.size) → K (a.put o.dst (.slice (some ⟨g', 0, none⟩) (k + 1) gc')) w') : o.wp Try.prog a w K Q := by
  obtain ⟨i0, hi0, hz0, hz1, hz2⟩ := info_parts Try.infoArc
  obtain ⟨f, hw9, hown⟩ := hown
  refine wp_append_lies w s x 24 ho base 36 i0 _ 3 24 Try.underlying24 hi0 hz0 hz1 hz2 rfl (by omega) _ k (cellsOf f (k * 3)) hs hown ⟨B, 0, none⟩ 1 1 [.int .i64 X, .int .i64 Y, .int .i64 Z] hx rfl (news_arc hB) (one_arc _ _ _) (by omega) (by unfold maxLen; omega) (by omega) hbase w.heap.size rfl ?_
  intro g' gc' w' hown' hgrow hat _
  rw [cells_put3] at hown'
  exact h g' gc' w' ⟨_, put3_wf hw9 hX9 hY9 hZ9, hown'⟩ hgrow hat
theorem step_append_arc {ops : Array Oper} {o : Oper} {a : Act} {w : World} {K : Act → World → Prop} {Q : Exit → Act → World → Prop} {E : Prop} (hgd : o.guard = none) (s x : Operand)
    (ho : o.op = .call { callee := .builtin .append, args := #[s, x], argTypes := #[24, 24] }) (base k gc : Nat) (go : Option Addr) (hs : a.eval s = .slice go k gc) (hown : AOwnE w base go k gc) (B : Nat) (hx : a.eval x = .slice (some ⟨B, 0, none⟩) 1 1)
    (X Y Z : Int) (hB : w.heap[B]? = some (.cells #[.int .i64 X, .int .i64 Y, .int .i64 Z] 36 (0, 0))) (hk : k ≤ 1000) (hbase : base ≤ w.heap.size) (hX9 : (Lit.int .i64 X).wf = true) (hY9 : (Lit.int .i64 Y).wf = true) (hZ9 : (Lit.int .i64 Z).wf = true)
    (h : ∀ g' gc' w', AOwnE w' base (some ⟨g', 0, none⟩) (k + 1) gc' → w.grownBy w' (Value.slice go k gc).ownBlock → ((Value.slice go k gc).ownBlock = some g' ∨ g' = w.heap.size) → K (a.put o.dst (.slice (some ⟨g', 0, none⟩) (k + 1) gc')) w') :
    if Region.wanted o (yielded ops a.tmps) = true then Oper.wp Try.prog o a w K Q else E := by
  have hw : Region.wanted o (yielded ops a.tmps) = true := by simp [Region.wanted, hgd]
  rw [if_pos hw]
  exact wp_append_arc s x ho base k gc go hs hown B hx X Y Z hB hk hbase hX9 hY9 hZ9 h
theorem wpList_append_arc {ops : Array Oper} {rest : List Oper} {o : Oper} {a : Act} {w : World} {Q : Exit → Act → World → Prop} (hgd : o.guard = none) (s x : Operand)
    (ho : o.op = .call { callee := .builtin .append, args := #[s, x], argTypes := #[24, 24] }) (base k gc : Nat) (go : Option Addr) (hs : a.eval s = .slice go k gc) (hown : AOwnE w base go k gc) (B : Nat) (hx : a.eval x = .slice (some ⟨B, 0, none⟩) 1 1)
    (X Y Z : Int) (hB : w.heap[B]? = some (.cells #[.int .i64 X, .int .i64 Y, .int .i64 Z] 36 (0, 0))) (hk : k ≤ 1000) (hbase : base ≤ w.heap.size) (hX9 : (Lit.int .i64 X).wf = true) (hY9 : (Lit.int .i64 Y).wf = true) (hZ9 : (Lit.int .i64 Z).wf = true)
    (h : ∀ g' gc' w', AOwnE w' base (some ⟨g', 0, none⟩) (k + 1) gc' → w.grownBy w' (Value.slice go k gc).ownBlock → ((Value.slice go k gc).ownBlock = some g' ∨ g' = w.heap.size) → wpList Try.prog ops Q rest (a.put o.dst (.slice (some ⟨g', 0, none⟩) (k + 1) gc')) w') : wpList Try.prog ops Q (o :: rest) a w :=
  wpList_plain hgd fun _ hK => wp_append_arc s x ho base k gc go hs hown B hx X Y Z hB hk hbase hX9 hY9 hZ9 fun g' gc' w' h1 h2 h3 => hK _ _ (h g' gc' w' h1 h2 h3)

/-- The box of a result, once it is filled. -/
theorem res_cells {w : World} {rb : Nat} (h : VHas w rb 26 2 (grV 0 (.slice none 0 0))) (p : Int) (v : Value) : (w.setCell ⟨rb, 0, none⟩ (.int .i64 p)).cell? ⟨rb, 0, none⟩ = some (.int .i64 p) ∧ ((w.setCell ⟨rb, 0, none⟩ (.int .i64 p)).setCell ⟨rb, 1, none⟩ v).cell? ⟨rb, 0, none⟩ = some (.int .i64 p) ∧ ((w.setCell ⟨rb, 0, none⟩ (.int .i64 p)).setCell ⟨rb, 1, none⟩ v).cell? ⟨rb, 1, none⟩ = some v :=
  ⟨(h.set 0 (.int .i64 p)).cell (j := 0) (by omega), ((h.set 0 (.int .i64 p)).set 1 v).cell (j := 0) (by omega), ((h.set 0 (.int .i64 p)).set 1 v).cell (j := 1) (by omega)⟩
/-- What stands behind a map's return. -/
theorem DS.out {w : World} {base c : Nat} {ao : Option Addr} {n cap rb gb : Nat} {p : Int} {go : Option Addr} {k gc : Nat} {W : World} (h : DS w base c ao n cap rb gb p go k gc W) (hc : (c < rb ∧ rb < gb) ∧ w.heap.size ≤ rb) (v0 v1 : Value) :
    AOwnE ((W.setCell ⟨rb, 0, none⟩ v0).setCell ⟨rb, 1, none⟩ v1) rb go k gc ∧ CurAt ((W.setCell ⟨rb, 0, none⟩ v0).setCell ⟨rb, 1, none⟩ v1) base c ao n cap ∧ w.grownBy ((W.setCell ⟨rb, 0, none⟩ v0).setCell ⟨rb, 1, none⟩ v1) (some c) := by
  have h1 := gr_setCell W rb 0 v0
  have h2 := gr_setCell (W.setCell ⟨rb, 0, none⟩ v0) rb 1 v1
  have hge := h.cur.ge
  refine ⟨((h.own.grown h1 (by omega)).grown h2 (by omega)).from (by omega), (h.cur.grown h1 (by omega) (by omega)).grown h2 (by omega) (by omega), ?_⟩
  exact gr_far (gr_far h.gr h1 (fun g e => by cases e; exact Nat.le_refl _) hc.2) h2 (fun g e => by cases e; exact Nat.le_refl _) hc.2

end Go.Proofs.Ythcgibpiogmmdaa
