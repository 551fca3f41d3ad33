/-
  Helpers, merged: DrawMap, DrawOne, DrawAny, DrawBox, OrdDoc, OrdSp, DrawOrd.
-/
import Derived.Test.YtdgnlpafmkhdjaaPack2
import Derived.Deep.RegionLaw
import Derived.BigRegion
/-
  The document's drawn maps: some map comes, in new memory; nothing that lay has turned but the cursor.
-/
set_option linter.unusedVariables false
set_option linter.unusedSimpArgs false
namespace Go.Proofs.Ytdgnlpafmkhdjaa
open Go.RowKit Go.Maps
attribute [local go_sem ↓] Go.wp_at_zero Go.wp_at_succ

theorem l1From_any (base c : Nat) (ao : Option Addr) (n cap : Nat) (w : World) (hC : CurAt w base c ao n cap) :
    Calls Try.prog 85 #[.pointer (some ⟨c, 0, none⟩), .int .i64 (-1), .int .i64 9] w fun e w' => ∃ x : Int, e = .returned (.int .i64 x) ∧ CurAt w' base c ao n cap ∧ w.grownBy w' (some c) := by
  go_enter Try.func85, Try.ntmps85
  go_wp2_with (go_at_call 53; refine (l1Below_any base c ao n cap _ (by omega) (by omega) _ hC).mono ?_; rintro e w1 ⟨x, rfl, hx, hC1, hg1⟩)
  go_ret
  exact ⟨_, rfl, hC1, hg1⟩

set_option maxHeartbeats 1000000 in
theorem l1New_any (ao : Option Addr) (n cap : Nat) (hn : n ≤ 4096) (w : World) (hr : ByRow w w.heap.size ao n) :
    Calls Try.prog 42 #[.slice ao n cap] w fun e w' => ∃ c, e = .returned (.pointer (some ⟨c, 0, none⟩)) ∧ CurAt w' w.heap.size c ao n cap ∧ Below w.heap.size w w' := by
  go_enter Try.func42, Try.ntmps42
  go_wp2
  go_loopw [3, 4] (fun x i wr => ∃ (k : Nat) (h : Int), k ≤ n ∧ x = .int .i64 h ∧ i = .int .i64 k ∧ wr = w) (fun _ i _ => n - (intOf i).toNat)
  case atStart => exact ⟨0, _, Nat.zero_le _, rfl, rfl, rfl⟩
  case round =>
    obtain ⟨k, h, hk, rfl, rfl, rfl⟩ := hrel
    by_cases hlt : k < n
    · obtain ⟨b, o, v, hao, hbb, hcb, hv0, hv1⟩ := hr k hlt
      subst hao
      go_wp2
      go_roundw
      case rel => exact ⟨k + 1, _, by omega, rfl, by go_num, by first | trivial | rfl⟩
      case measure => simp [intOf]; omega
    · go_wp2
      go_ret
      refine ⟨_, rfl, ⟨Nat.le_refl _, hn, hr.below ((Below.refl _ _).alloc (Nat.le_refl _) _) (Nat.le_refl _), 0, h, by omega, by omega, ?_⟩, (Below.refl _ _).alloc (Nat.le_refl _) _⟩
      exact ⟨_, Go.Deep.blk_alloc_new _ _, by simp, fun j hj => by
        have : j = 0 ∨ j = 1 ∨ j = 2 := by omega
        rcases this with rfl | rfl | rfl <;> rfl⟩

/-- Some arcs of the call's own, n of them. -/
def AOwnE (w : World) (base : Nat) (ao : Option Addr) (n cap : Nat) : Prop := ∃ f : Nat → Int, w.ownsRow base 36 3 (.slice ao n cap) n (cellsOf f (n * 3))
theorem AOwnE.grown {w w' : World} {base n cap x : Nat} {ao : Option Addr} (h : AOwnE w base ao n cap) (hg : w.grownBy w' (some x)) (hx : x < base) : AOwnE w' base ao n cap := by
  obtain ⟨f, hl, h0 | ⟨g, cap', cur, hv, hb, hh, rest⟩⟩ := h
  · exact ⟨f, hl, .inl h0⟩
  · exact ⟨f, hl, .inr ⟨g, cap', cur, hv, hb, (hg.block g (Array.getElem?_eq_some_iff.1 hh).1 (by simp; omega)).trans hh, rest⟩⟩
theorem AOwnE.next {w w' : World} {base n cap : Nat} {ao : Option Addr} (h : AOwnE w base ao n cap) (hb : Below w.heap.size w w') : AOwnE w' base ao n cap := by
  obtain ⟨f, hl, h0 | ⟨g, cap', cur, hv, hb', hh, rest⟩⟩ := h
  · exact ⟨f, hl, .inl h0⟩
  · exact ⟨f, hl, .inr ⟨g, cap', cur, hv, hb', (hb.block g (Array.getElem?_eq_some_iff.1 hh).1).trans hh, rest⟩⟩
theorem AOwnE.from {w : World} {base base' n cap : Nat} {ao : Option Addr} (h : AOwnE w base ao n cap) (hb : base' ≤ base) : AOwnE w base' ao n cap := by
  obtain ⟨f, hl, h0 | ⟨g, cap', cur, hv, hb', rest⟩⟩ := h
  · exact ⟨f, hl, .inl h0⟩
  · exact ⟨f, hl, .inr ⟨g, cap', cur, hv, by omega, rest⟩⟩
theorem AOwnE.row {w : World} {base n cap : Nat} {ao : Option Addr} (h : AOwnE w base ao n cap) : ∃ F T G : Nat → Int, Row w ao n F T G ∧ (0 < n → ∃ g, ao = some ⟨g, 0, none⟩ ∧ base ≤ g) := by
  obtain ⟨f, hl, h0 | ⟨g, cap', cur, hv, hb', hh, h1, h2, h3, h4⟩⟩ := h
  · exact ⟨fun _ => 0, fun _ => 0, fun _ => 0, fun k hk => by omega, fun h => by omega⟩
  · simp at hv
    obtain ⟨rfl, rfl⟩ := hv
    have hc : ∀ j, j < n * 3 → w.cell? ⟨g, j, none⟩ = some (.int .i64 (f j)) := fun j hj => by
      have : (cur.toList.take (n * 3))[j]? = (cellsOf f (n * 3))[j]? := by rw [h4]
      rw [List.getElem?_take_of_lt hj, cellsOf, List.getElem?_map, List.getElem?_range hj] at this
      simp [World.cell?, hh]
      simpa using this
    exact ⟨fun k => f (k * 3), fun k => f (k * 3 + 1), fun k => f (k * 3 + 2), fun k hk => ⟨g, 0, rfl, by simpa using hc (k * 3) (by omega), by simpa using hc (k * 3 + 1) (by omega), by simpa using hc (k * 3 + 2) (by omega)⟩, fun _ => ⟨g, rfl, hb'⟩⟩
/-- One arc more. -/
def put3 (f : Nat → Int) (m : Nat) (x y z : Int) (j : Nat) : Int := if j < m then f j else if j = m then x else if j = m + 1 then y else z
theorem cells_put3 (f : Nat → Int) (n : Nat) (x y z : Int) : cellsOf f (n * 3) ++ [.int .i64 x, .int .i64 y, .int .i64 z] = cellsOf (put3 f (n * 3) x y z) ((n + 1) * 3) := by
  have e : (n + 1) * 3 = n * 3 + 1 + 1 + 1 := by omega
  have h0 : cellsOf (put3 f (n * 3) x y z) (n * 3) = cellsOf f (n * 3) := by
    unfold cellsOf
    refine List.map_congr_left fun j hj => ?_
    have := List.mem_range.1 hj
    simp [put3, this]
  have s : ∀ m, cellsOf (put3 f (n * 3) x y z) (m + 1) = cellsOf (put3 f (n * 3) x y z) m ++ [.int .i64 (put3 f (n * 3) x y z m)] := fun m => by
    simp [cellsOf, List.range_succ]
  have g0 : put3 f (n * 3) x y z (n * 3) = x := by simp [put3]
  have g1 : put3 f (n * 3) x y z (n * 3 + 1) = y := by
    unfold put3
    rw [if_neg (by omega), if_neg (by omega), if_pos rfl]
  have g2 : put3 f (n * 3) x y z (n * 3 + 1 + 1) = z := by
    unfold put3
    rw [if_neg (by omega), if_neg (by omega), if_neg (by omega)]
  rw [e, s, s, s, h0, g0, g1, g2]
  simp
theorem news_arc {w : World} {B : Nat} {x y z : Int} {t : TypeId} (hb : w.heap[B]? = some (.cells #[.int .i64 x, .int .i64 y, .int .i64 z] t (0, 0))) : ∀ j u, [Value.int .i64 x, .int .i64 y, .int .i64 z][j]? = some u → w.cell? ((⟨B, 0, none⟩ : Addr).add j) = some u :=
  World.news_of_block hb
theorem one_arc (x y z : Int) : ∀ u ∈ [Value.int .i64 x, .int .i64 y, .int .i64 z], u.oneCell' = true := fun u hu => by
  simp at hu
  rcases hu with rfl | rfl | rfl <;> rfl

/-- The cells of a map in a box. -/
def grV (p : Int) (v : Value) (j : Nat) : Value := if j = 0 then .int .i64 p else v
/-- What stands while a map is drawn: the cursor, the map's box, its arcs. -/
structure DS (w : World) (base c : Nat) (ao : Option Addr) (n cap : Nat) (rb gb : Nat) (p : Int) (go : Option Addr) (k gc : Nat) (W : World) : Prop where
  cur : CurAt W base c ao n cap
  box : VHas W gb 26 2 (grV p (.slice go k gc))
  own : AOwnE W (rb + 1) go k gc
  ne : ∀ a, go = some a → a.block ≠ gb
  res : VHas W rb 26 2 (grV 0 (.slice none 0 0))
  gr : w.grownBy W (some c)
theorem DS.step {w : World} {base c : Nat} {ao : Option Addr} {n cap rb gb : Nat} {p : Int} {go : Option Addr} {k gc : Nat} {W W' : World} (h : DS w base c ao n cap rb gb p go k gc W) (hc : c < rb ∧ rb < gb) (hC : CurAt W' base c ao n cap) (hg : W.grownBy W' (some c)) : DS w base c ao n cap rb gb p go k gc W' :=
  ⟨hC, h.box.grown hg (by simp; omega), h.own.grown hg (by omega), h.ne, h.res.grown hg (by simp; omega), h.gr.trans hg⟩
theorem DS.next {w : World} {base c : Nat} {ao : Option Addr} {n cap rb gb : Nat} {p : Int} {go : Option Addr} {k gc : Nat} {W W' : World} (h : DS w base c ao n cap rb gb p go k gc W) (hb : Below W.heap.size W W') : DS w base c ao n cap rb gb p go k gc W' :=
  ⟨h.cur.next hb, h.box.next hb, h.own.next hb, h.ne, h.res.next hb, h.gr.trans (below_grown hb)⟩
theorem gr_new (w : World) (p : Int) (v : Value) : VHas (w.alloc (.cells #[.int .i64 p, v] 26)) w.heap.size 26 2 (grV p v) :=
  ⟨_, Go.Deep.blk_alloc_new _ _, by simp, fun j hj => by
    have : j = 0 ∨ j = 1 := by omega
    rcases this with rfl | rfl <;> rfl⟩
theorem aown_nil (w : World) (base : Nat) : AOwnE w base none 0 0 := ⟨fun _ => 0, by simp [cellsOf], .inl ⟨rfl, rfl⟩⟩

/-- A step that turns a block far up alone. -/
theorem gr_far {w W W' : World} {c B : Nat} {row : Option Nat} (h : w.grownBy W (some c)) (hg : W.grownBy W' row) (hr : ∀ g, row = some g → B ≤ g) (hB : w.heap.size ≤ B) : w.grownBy W' (some c) :=
  ⟨hg.os.trans h.os, hg.tape.trans h.tape, hg.output.trans h.output, Nat.le_trans h.size hg.size, fun k hk hne => (hg.block k (Nat.lt_of_lt_of_le hk h.size) (fun e => by have := hr k e.symm; omega)).trans (h.block k hk hne)⟩
theorem CurAt.far {w w' : World} {base c B : Nat} {ao : Option Addr} {n cap : Nat} {row : Option Nat} (h : CurAt w base c ao n cap) (hg : w.grownBy w' row) (hr : ∀ g, row = some g → B ≤ g) (hB : c < B) : CurAt w' base c ao n cap := by
  obtain ⟨i, hh, h0, h1, hv⟩ := h.cur
  have hge := h.ge
  refine ⟨h.ge, h.len, fun k hk => ?_, i, hh, h0, h1, hv.grown hg (fun e => by have := hr c e.symm; omega)⟩
  obtain ⟨b, o, v, e, hb, hc, hv'⟩ := h.by_ k hk
  exact ⟨b, o, v, e, hb, hg.cell hc (fun e => by have := hr b e.symm; omega), hv'⟩
theorem AOwnE.at {w : World} {base n cap x : Nat} {ao : Option Addr} (h : AOwnE w base ao n cap) (e : (Value.slice ao n cap).ownBlock = some x) : base ≤ x ∧ x < w.heap.size := by
  obtain ⟨f, hf⟩ := h
  exact World.ownsRow.lt hf x e
theorem own_block {ao : Option Addr} {n cap x : Nat} (e : (Value.slice ao n cap).ownBlock = some x) : ∃ a, ao = some a ∧ a.block = x := by
  cases ao with
  | none => simp [Value.ownBlock] at e
  | some a => exact ⟨a, rfl, by simpa [Value.ownBlock] using e⟩
theorem DS.row {w : World} {base c : Nat} {ao : Option Addr} {n cap rb gb : Nat} {p : Int} {go : Option Addr} {k gc : Nat} {W : World} (h : DS w base c ao n cap rb gb p go k gc W) {x : Nat} (e : (Value.slice go k gc).ownBlock = some x) : rb + 1 ≤ x ∧ x ≠ gb := by
  obtain ⟨a, ha, rfl⟩ := own_block e
  exact ⟨(h.own.at e).1, h.ne a ha⟩
/-- Behind an append to the map's arcs: all but the box's second cell stands. -/
theorem DS.appended {w : World} {base c : Nat} {ao : Option Addr} {n cap rb gb : Nat} {p : Int} {go : Option Addr} {k gc : Nat} {W W' : World} (h : DS w base c ao n cap rb gb p go k gc W) (hc : (c < rb ∧ rb < gb) ∧ w.heap.size ≤ rb) (hg : W.grownBy W' (Value.slice go k gc).ownBlock) {g' k' gc' : Nat} (hown : AOwnE W' (rb + 1) (some ⟨g', 0, none⟩) k' gc') (hat : (Value.slice go k gc).ownBlock = some g' ∨ g' = W.heap.size) :
    DS w base c ao n cap rb gb p (some ⟨g', 0, none⟩) k' gc' (W'.setCell ⟨gb, 1, none⟩ (.slice (some ⟨g', 0, none⟩) k' gc')) := by
  have hr : ∀ g, (Value.slice go k gc).ownBlock = some g → rb + 1 ≤ g := fun g e => (h.row e).1
  have hgl := h.box.lt
  have hng : g' ≠ gb := by
    rcases hat with e | e
    · exact (h.row e).2
    · omega
  have hs := gr_setCell W' gb 1 (.slice (some ⟨g', 0, none⟩) k' gc')
  have hbx := h.box.grown hg (fun e => (h.row e.symm).2 rfl)
  have hge := h.cur.ge
  refine ⟨(h.cur.far hg hr (by omega)).grown hs (by omega) (by omega), (hbx.set 1 _).congr (fun j hj => ?_), ?_, fun a e => by cases e; exact hng, (h.res.grown hg (fun e => by have := hr rb e.symm; omega)).grown hs (by simp; omega), ?_⟩
  · have : j = 0 ∨ j = 1 := by omega
    rcases this with rfl | rfl <;> rfl
  · obtain ⟨f, hl, h0 | ⟨g, cap', cur, hv, hb, hh, rest⟩⟩ := hown
    · simp at h0
    · have hv' := hv
      simp at hv'
      exact ⟨f, hl, .inr ⟨g, cap', cur, hv, hb, (hs.block g (Array.getElem?_eq_some_iff.1 hh).1 (by simp; omega)).trans hh, rest⟩⟩
  · have h1 := gr_far h.gr hg hr (by omega)
    exact gr_far (row := some gb) h1 hs (fun g e => by cases e; exact Nat.le_refl _) (by omega)

theorem wp_append_arc {o : Oper} {a : Act} {w : World} {K : Act → World → Prop} {Q : Exit → Act → World → Prop} (s x : Operand)
    (ho : o.op = .call { callee := .builtin .append, args := #[s, x], argTypes := #[24, 24] }) (base k gc : Nat) (go : Option Addr) (hs : a.eval s = .slice go k gc) (hown : AOwnE w base go k gc) (B : Nat) (hx : a.eval x = .slice (some ⟨B, 0, none⟩) 1 1)
    (X Y Z : Int) (hB : w.heap[B]? = some (.cells #[.int .i64 X, .int .i64 Y, .int .i64 Z] 36 (0, 0))) (hk : k ≤ 1000) (hbase : base ≤ w.heap.size)
    (h : ∀ g' gc' w', AOwnE w' base (some ⟨g', 0, none⟩) (k + 1) gc' → w.grownBy w' (Value.slice go k gc).ownBlock → ((Value.slice go k gc).ownBlock = some g' ∨ g' = w.heap.size) → K (a.put o.dst (.slice (some ⟨g', 0, none⟩) (k + 1) gc')) w') : o.wp Try.prog a w K Q := by
  obtain ⟨i0, hi0, hz0, hz1, hz2⟩ := info_parts Try.infoArc
  obtain ⟨f, hown⟩ := hown
  refine wp_append_lies w s x 24 ho base 36 i0 _ 3 24 Try.underlying24 hi0 hz0 hz1 hz2 rfl (by omega) _ k (cellsOf f (k * 3)) hs hown ⟨B, 0, none⟩ 1 1 [.int .i64 X, .int .i64 Y, .int .i64 Z] hx rfl (news_arc hB) (one_arc _ _ _) (by omega) (by unfold maxLen; omega) (by omega) hbase w.heap.size rfl ?_
  intro g' gc' w' hown' hgrow hat _
  rw [cells_put3] at hown'
  exact h g' gc' w' ⟨_, hown'⟩ hgrow hat
theorem step_append_arc {ops : Array Oper} {o : Oper} {a : Act} {w : World} {K : Act → World → Prop} {Q : Exit → Act → World → Prop} {E : Prop} (hgd : o.guard = none) (s x : Operand)
    (ho : o.op = .call { callee := .builtin .append, args := #[s, x], argTypes := #[24, 24] }) (base k gc : Nat) (go : Option Addr) (hs : a.eval s = .slice go k gc) (hown : AOwnE w base go k gc) (B : Nat) (hx : a.eval x = .slice (some ⟨B, 0, none⟩) 1 1)
    (X Y Z : Int) (hB : w.heap[B]? = some (.cells #[.int .i64 X, .int .i64 Y, .int .i64 Z] 36 (0, 0))) (hk : k ≤ 1000) (hbase : base ≤ w.heap.size)
    (h : ∀ g' gc' w', AOwnE w' base (some ⟨g', 0, none⟩) (k + 1) gc' → w.grownBy w' (Value.slice go k gc).ownBlock → ((Value.slice go k gc).ownBlock = some g' ∨ g' = w.heap.size) → K (a.put o.dst (.slice (some ⟨g', 0, none⟩) (k + 1) gc')) w') :
    if Region.wanted o (yielded ops a.tmps) = true then Oper.wp Try.prog o a w K Q else E := by
  have hw : Region.wanted o (yielded ops a.tmps) = true := by simp [Region.wanted, hgd]
  rw [if_pos hw]
  exact wp_append_arc s x ho base k gc go hs hown B hx X Y Z hB hk hbase h
theorem wpList_append_arc {ops : Array Oper} {rest : List Oper} {o : Oper} {a : Act} {w : World} {Q : Exit → Act → World → Prop} (hgd : o.guard = none) (s x : Operand)
    (ho : o.op = .call { callee := .builtin .append, args := #[s, x], argTypes := #[24, 24] }) (base k gc : Nat) (go : Option Addr) (hs : a.eval s = .slice go k gc) (hown : AOwnE w base go k gc) (B : Nat) (hx : a.eval x = .slice (some ⟨B, 0, none⟩) 1 1)
    (X Y Z : Int) (hB : w.heap[B]? = some (.cells #[.int .i64 X, .int .i64 Y, .int .i64 Z] 36 (0, 0))) (hk : k ≤ 1000) (hbase : base ≤ w.heap.size)
    (h : ∀ g' gc' w', AOwnE w' base (some ⟨g', 0, none⟩) (k + 1) gc' → w.grownBy w' (Value.slice go k gc).ownBlock → ((Value.slice go k gc).ownBlock = some g' ∨ g' = w.heap.size) → wpList Try.prog ops Q rest (a.put o.dst (.slice (some ⟨g', 0, none⟩) (k + 1) gc')) w') : wpList Try.prog ops Q (o :: rest) a w :=
  wpList_plain hgd fun _ hK => wp_append_arc s x ho base k gc go hs hown B hx X Y Z hB hk hbase fun g' gc' w' h1 h2 h3 => hK _ _ (h g' gc' w' h1 h2 h3)

/-- The box of a result, once it is filled. -/
theorem res_cells {w : World} {rb : Nat} (h : VHas w rb 26 2 (grV 0 (.slice none 0 0))) (p : Int) (v : Value) : (w.setCell ⟨rb, 0, none⟩ (.int .i64 p)).cell? ⟨rb, 0, none⟩ = some (.int .i64 p) ∧ ((w.setCell ⟨rb, 0, none⟩ (.int .i64 p)).setCell ⟨rb, 1, none⟩ v).cell? ⟨rb, 0, none⟩ = some (.int .i64 p) ∧ ((w.setCell ⟨rb, 0, none⟩ (.int .i64 p)).setCell ⟨rb, 1, none⟩ v).cell? ⟨rb, 1, none⟩ = some v :=
  ⟨(h.set 0 (.int .i64 p)).cell (j := 0) (by omega), ((h.set 0 (.int .i64 p)).set 1 v).cell (j := 0) (by omega), ((h.set 0 (.int .i64 p)).set 1 v).cell (j := 1) (by omega)⟩
/-- What stands behind a map's return. -/
theorem DS.out {w : World} {base c : Nat} {ao : Option Addr} {n cap rb gb : Nat} {p : Int} {go : Option Addr} {k gc : Nat} {W : World} (h : DS w base c ao n cap rb gb p go k gc W) (hc : (c < rb ∧ rb < gb) ∧ w.heap.size ≤ rb) (v0 v1 : Value) :
    AOwnE ((W.setCell ⟨rb, 0, none⟩ v0).setCell ⟨rb, 1, none⟩ v1) rb go k gc ∧ CurAt ((W.setCell ⟨rb, 0, none⟩ v0).setCell ⟨rb, 1, none⟩ v1) base c ao n cap ∧ w.grownBy ((W.setCell ⟨rb, 0, none⟩ v0).setCell ⟨rb, 1, none⟩ v1) (some c) := by
  have h1 := gr_setCell W rb 0 v0
  have h2 := gr_setCell (W.setCell ⟨rb, 0, none⟩ v0) rb 1 v1
  have hge := h.cur.ge
  refine ⟨((h.own.grown h1 (by omega)).grown h2 (by omega)).from (by omega), (h.cur.grown h1 (by omega) (by omega)).grown h2 (by omega) (by omega), ?_⟩
  exact gr_far (gr_far h.gr h1 (fun g e => by cases e; exact Nat.le_refl _) hc.2) h2 (fun g e => by cases e; exact Nat.le_refl _) hc.2

end Go.Proofs.Ytdgnlpafmkhdjaa

/-
  The document's l1Draw: some map comes.
-/
set_option linter.unusedVariables false
set_option linter.unusedSimpArgs false
namespace Go.Proofs.Ytdgnlpafmkhdjaa
open Go.RowKit Go.Maps
attribute [local go_sem ↓] Go.wp_at_zero Go.wp_at_succ

set_option maxRecDepth 100000 in
set_option maxHeartbeats 4000000 in
theorem l1Draw_any (base c : Nat) (ao : Option Addr) (n cap : Nat) (w : World) (hC : CurAt w base c ao n cap) :
    Calls Try.prog 84 #[.pointer (some ⟨c, 0, none⟩)] w fun e w' => ∃ (p : Nat) (go : Option Addr) (k gc : Nat), e = .returned (.agg #[.int .i64 (p : Int), .slice go k gc]) ∧ (1 ≤ p ∧ p ≤ 9) ∧ k ≤ 81 ∧ AOwnE w' w.heap.size go k gc ∧ CurAt w' base c ao n cap ∧ w.grownBy w' (some c) := by
  have hcl := hC.lt
  have hC0 := hC.next ((Below.refl _ w).alloc (Nat.le_refl _) (.cells #[.int .i64 0, .slice none 0 0] 26))
  go_enter Try.func84, Try.ntmps84
  go_wp2_with fail
  refine (l1Below_any base c ao n cap 9 (by omega) (by omega) _ hC0).mono ?_
  rintro e w1 ⟨x, rfl, hx, hC1, hg1⟩
  have hrb1 := (gr_new w 0 (.slice none 0 0)).grown hg1 (by simp; omega)
  have hs1 := hrb1.lt
  have hD1 : DS w base c ao n cap w.heap.size w1.heap.size ((x + 1 : Nat) : Int) none 0 0 (w1.alloc (.cells #[.int .i64 ((x + 1 : Nat) : Int), .slice none 0 0] 26)) :=
    ⟨hC1.next ((Below.refl _ w1).alloc (Nat.le_refl _) _), gr_new w1 _ _, aown_nil _ _, (fun a e => by cases e), hrb1.alloc _, ((World.grownBy_alloc w _ _).trans hg1).trans (World.grownBy_alloc w1 _ _)⟩
  have hx9 : x + 1 ≤ 9 := by omega
  have hx1 : 1 ≤ x + 1 := by omega
  go_wp2_with fail
  have hp : (1 + (x : Int)) = ((x + 1 : Nat) : Int) := by omega
  rw [hp]
  clear hp
  generalize x + 1 = p at hD1 hx9 hx1 ⊢
  refine (l1Below_any base c ao n cap 5 (by omega) (by omega) _ hD1.cur).mono ?_
  rintro e w2 ⟨y, rfl, hy, hC2, hg2⟩
  have hD2 := hD1.step ⟨hcl, hs1⟩ hC2 hg2
  clear hD1 hC2 hg2 hC1 hg1 hrb1
  obtain ⟨gb, hgb⟩ : ∃ gb, w1.heap.size = gb := ⟨_, rfl⟩
  rw [hgb] at hD2 hs1 ⊢
  clear hgb
  obtain ⟨i0, hi0, hz0, hz1, hz2⟩ := info_parts Try.infoArc
  have hgw : w.heap.size ≤ gb := by omega
  go_wp2_with fail
  go_loopw [5] (fun x wr => ∃ (a k gc : Nat) (go : Option Addr), a ≤ p ∧ k ≤ 9 * a ∧ x = .int .i64 a ∧ DS w base c ao n cap w.heap.size gb p go k gc wr) (fun x _ => p - (intOf x).toNat)
  case atStart => exact ⟨0, 0, 0, none, Nat.zero_le _, Nat.zero_le _, rfl, hD2⟩
  case round =>
    clear hD2
    obtain ⟨a, k, gc, go, ha, hk, rfl, hD⟩ := hrel
    have b0 : wr.cell? ⟨gb, 0, none⟩ = some (.int .i64 (p : Int)) := hD.box.cell (j := 0) (by omega)
    have b1 : wr.cell? ⟨gb, 1, none⟩ = some (.slice go k gc) := hD.box.cell (j := 1) (by omega)
    by_cases hlt : a < p
    rotate_left
    · have hap : a = p := by omega
      subst hap
      have r0 : wr.cell? ⟨w.heap.size, 0, none⟩ = some (.int .i64 0) := hD.res.cell (j := 0) (by omega)
      have r1 : wr.cell? ⟨w.heap.size, 1, none⟩ = some (.slice none 0 0) := hD.res.cell (j := 1) (by omega)
      have z0 := hD.res.frozen 0
      have z1 := hD.res.frozen 1
      obtain ⟨q0, q1, q2⟩ := res_cells hD.res (a : Int) (.slice go k gc)
      obtain ⟨o1, o2, o3⟩ := hD.out ⟨⟨hcl, hs1⟩, Nat.le_refl _⟩ (.int .i64 (a : Int)) (.slice go k gc)
      go_wp2
      simp [bodyPost, results, Try.results84, go_sem, q0, q1, q2]
      exact ⟨a, go, k, gc, ⟨rfl, rfl, rfl, rfl⟩, ⟨hx1, hx9⟩, by omega, o1, o2, o3⟩
    have hlt' : (a : Int) < (p : Int) := by omega
    go_wp2
    go_loopw [6] (fun x wr2 => ∃ (b k gc : Nat) (go : Option Addr), b ≤ p ∧ k ≤ 9 * a + b ∧ x = .int .i64 b ∧ DS w base c ao n cap w.heap.size gb p go k gc wr2) (fun x _ => p - (intOf x).toNat)
    case atStart => exact ⟨0, k, gc, go, Nat.zero_le _, by omega, rfl, hD⟩
    case round =>
      clear hD b0 b1 hk k gc go
      obtain ⟨b, k, gc, go, hb, hk, rfl, hD⟩ := hrel
      have b0 : wr.cell? ⟨gb, 0, none⟩ = some (.int .i64 (p : Int)) := hD.box.cell (j := 0) (by omega)
      by_cases hltb : b < p
      rotate_left
      · have hbp : b = p := by omega
        subst hbp
        go_wp2
        go_roundw
        case rel => exact ⟨a + 1, k, gc, go, by omega, by omega, by go_num, hD⟩
        case measure => simp [intOf]; omega
      have hltb' : (b : Int) < (p : Int) := by omega
      by_cases hab : a = b
      · subst hab
        go_wp2
        go_roundw
        case rel => exact ⟨a + 1, k, gc, go, by omega, by omega, by go_num, hD⟩
        case measure => simp [intOf]; omega
      have hab' : ¬ (a : Int) = (b : Int) := by omega
      by_cases hba : b = a + 1
      · subst hba
        clear hab hab' hltb'
        have hltb2 : (a : Int) + 1 < (p : Int) := by omega
        have hab2 : ¬ (a : Int) = (a : Int) + 1 := by omega
        have hab3 : ((a : Int) != (a : Int) + 1) = true := by rw [bne_iff_ne]; omega
        go_wp2_with fail
        refine (l1Once_any base c ao n cap _ (by omega) (by omega) _ hD.cur).mono ?_
        rintro e w9 ⟨bx, rfl, hC9, hg9⟩
        have hD9 := hD.step ⟨hcl, hs1⟩ hC9 hg9
        clear hC9 hg9 hD b0
        cases bx
        · go_wp2_with fail
          refine (l1Once_any base c ao n cap _ (by omega) (by omega) _ hD9.cur).mono ?_
          rintro e w10 ⟨bx, rfl, hC10, hg10⟩
          have hD10 := hD9.step ⟨hcl, hs1⟩ hC10 hg10
          clear hC10 hg10 hD9
          cases bx
          · skip
            have b1 : w10.cell? ⟨gb, 1, none⟩ = some (.slice go k gc) := hD10.box.cell (j := 1) (by omega)
            have hDd := hD10.next (Below.refl _ w10).drew
            clear hD10
            go_wp2
            go_region_law (first | (go_simp; go_at_call 53; refine (l1Below_any base c ao n cap 20 (by omega) (by omega) _ hDd.cur).mono ?_; rintro e w5 ⟨zz, rfl, hzz, hC5, hg5⟩; have hD5 := hDd.step ⟨hcl, hs1⟩ hC5 hg5; have b5 : w5.cell? ⟨gb, 1, none⟩ = some (.slice go k gc) := hD5.box.cell (j := 1) (by omega); have hl5 := hD5.box.lt) | (refine step_append_arc ?_ (.tmp 47) (.tmp 54) ?_ (w.heap.size + 1) k gc go ?_ (hD5.own.next ((Below.refl _ _).alloc (Nat.le_refl _) _)) w5.heap.size ?_ _ _ _ (Go.Deep.blk_alloc_new _ _) (by omega) (by have := hD5.box.lt; simp; omega) ?_; rfl; rfl; rfl; rfl; intro g' gc' w6 hown6 hgrow hr6; have hbx6 := (hD5.box.alloc _).grown hgrow (fun e => (hD5.row e.symm).2 rfl); have hb6 : w6.cell? ⟨gb, 1, none⟩ = some (.slice go k gc) := hbx6.cell (j := 1) (by omega); have hz6 := hbx6.frozen 1))
            all_goals
              have R := (hD5.next ((Below.refl _ _).alloc (Nat.le_refl _) _)).appended ⟨⟨hcl, hs1⟩, Nat.le_refl _⟩ hgrow hown6 hr6
              clear hbx6 hb6 hz6 hD5 hgrow hDd hown6 hC5 hg5
              go_wp2
              go_roundw
              case rel => exact ⟨a + 1 + 1, k + 1, gc', _, by omega, by omega, by go_num, R⟩
              case measure => simp [intOf]; omega
          · go_wp2
            go_roundw
            case rel => exact ⟨a + 1 + 1, k, gc, go, by omega, by omega, by go_num, hD10⟩
            case measure => simp [intOf]; omega
        · skip
          have b1 : w9.cell? ⟨gb, 1, none⟩ = some (.slice go k gc) := hD9.box.cell (j := 1) (by omega)
          have hDd := hD9.next (Below.refl _ w9).drew
          clear hD9
          go_wp2
          go_region_law (first | (go_simp; go_at_call 53; refine (l1Below_any base c ao n cap 20 (by omega) (by omega) _ hDd.cur).mono ?_; rintro e w5 ⟨zz, rfl, hzz, hC5, hg5⟩; have hD5 := hDd.step ⟨hcl, hs1⟩ hC5 hg5; have b5 : w5.cell? ⟨gb, 1, none⟩ = some (.slice go k gc) := hD5.box.cell (j := 1) (by omega); have hl5 := hD5.box.lt) | (refine step_append_arc ?_ (.tmp 47) (.tmp 54) ?_ (w.heap.size + 1) k gc go ?_ (hD5.own.next ((Below.refl _ _).alloc (Nat.le_refl _) _)) w5.heap.size ?_ _ _ _ (Go.Deep.blk_alloc_new _ _) (by omega) (by have := hD5.box.lt; simp; omega) ?_; rfl; rfl; rfl; rfl; intro g' gc' w6 hown6 hgrow hr6; have hbx6 := (hD5.box.alloc _).grown hgrow (fun e => (hD5.row e.symm).2 rfl); have hb6 : w6.cell? ⟨gb, 1, none⟩ = some (.slice go k gc) := hbx6.cell (j := 1) (by omega); have hz6 := hbx6.frozen 1))
          all_goals
            have R := (hD5.next ((Below.refl _ _).alloc (Nat.le_refl _) _)).appended ⟨⟨hcl, hs1⟩, Nat.le_refl _⟩ hgrow hown6 hr6
            clear hbx6 hb6 hz6 hD5 hgrow hDd hown6 hC5 hg5
            go_wp2
            go_roundw
            case rel => exact ⟨a + 1 + 1, k + 1, gc', _, by omega, by omega, by go_num, R⟩
            case measure => simp [intOf]; omega
      · have hba2 : ¬ (b : Int) = (a : Int) + 1 := by omega
        have hab3 : ((a : Int) != (b : Int)) = true := by rw [bne_iff_ne]; omega
        go_wp2_with fail
        refine (l1Once_any base c ao n cap _ (by omega) (by omega) _ hD.cur).mono ?_
        rintro e w9 ⟨bx, rfl, hC9, hg9⟩
        have hD9 := hD.step ⟨hcl, hs1⟩ hC9 hg9
        clear hC9 hg9 hD b0
        cases bx
        · go_wp2
          go_roundw
          case rel => exact ⟨b + 1, k, gc, go, by omega, by omega, by go_num, hD9⟩
          case measure => simp [intOf]; omega
        · skip
          have b1 : w9.cell? ⟨gb, 1, none⟩ = some (.slice go k gc) := hD9.box.cell (j := 1) (by omega)
          have hDd := hD9.next (Below.refl _ w9).drew
          clear hD9
          go_wp2
          go_region_law (first | (go_simp; go_at_call 53; refine (l1Below_any base c ao n cap 20 (by omega) (by omega) _ hDd.cur).mono ?_; rintro e w5 ⟨zz, rfl, hzz, hC5, hg5⟩; have hD5 := hDd.step ⟨hcl, hs1⟩ hC5 hg5; have b5 : w5.cell? ⟨gb, 1, none⟩ = some (.slice go k gc) := hD5.box.cell (j := 1) (by omega); have hl5 := hD5.box.lt) | (refine step_append_arc ?_ (.tmp 47) (.tmp 54) ?_ (w.heap.size + 1) k gc go ?_ (hD5.own.next ((Below.refl _ _).alloc (Nat.le_refl _) _)) w5.heap.size ?_ _ _ _ (Go.Deep.blk_alloc_new _ _) (by omega) (by have := hD5.box.lt; simp; omega) ?_; rfl; rfl; rfl; rfl; intro g' gc' w6 hown6 hgrow hr6; have hbx6 := (hD5.box.alloc _).grown hgrow (fun e => (hD5.row e.symm).2 rfl); have hb6 : w6.cell? ⟨gb, 1, none⟩ = some (.slice go k gc) := hbx6.cell (j := 1) (by omega); have hz6 := hbx6.frozen 1))
          all_goals
            have R := (hD5.next ((Below.refl _ _).alloc (Nat.le_refl _) _)).appended ⟨⟨hcl, hs1⟩, Nat.le_refl _⟩ hgrow hown6 hr6
            clear hbx6 hb6 hz6 hD5 hgrow hDd hown6 hC5 hg5
            go_wp2
            go_roundw
            case rel => exact ⟨b + 1, k + 1, gc', _, by omega, by omega, by go_num, R⟩
            case measure => simp [intOf]; omega

end Go.Proofs.Ytdgnlpafmkhdjaa

/-
  The document's l1DrawAny: some map comes, right or not.
-/
set_option linter.unusedVariables false
set_option linter.unusedSimpArgs false
namespace Go.Proofs.Ytdgnlpafmkhdjaa
open Go.RowKit Go.Maps
attribute [local go_sem ↓] Go.wp_at_zero Go.wp_at_succ

/-- A number out of a list that is written out. -/
theorem lit5 {W : World} {b : Nat} {a0 a1 a2 a3 a4 : Int} {t : TypeId} (h : W.heap[b]? = some (.cells #[.int .i64 a0, .int .i64 a1, .int .i64 a2, .int .i64 a3, .int .i64 a4] t (0, 0))) {y : Nat} (hy : y < 5) : ∃ v, W.cell? ⟨b, y, none⟩ = some (.int .i64 v) := by
  have : y = 0 ∨ y = 1 ∨ y = 2 ∨ y = 3 ∨ y = 4 := by omega
  rcases this with rfl | rfl | rfl | rfl | rfl <;> exact ⟨_, by simp [World.cell?, h]; rfl⟩
theorem lit4 {W : World} {b : Nat} {a0 a1 a2 a3 : Int} {t : TypeId} (h : W.heap[b]? = some (.cells #[.int .i64 a0, .int .i64 a1, .int .i64 a2, .int .i64 a3] t (0, 0))) {y : Nat} (hy : y < 4) : ∃ v, W.cell? ⟨b, y, none⟩ = some (.int .i64 v) := by
  have : y = 0 ∨ y = 1 ∨ y = 2 ∨ y = 3 := by omega
  rcases this with rfl | rfl | rfl | rfl <;> exact ⟨_, by simp [World.cell?, h]; rfl⟩
theorem AOwnE.cells {w : World} {base n cap : Nat} {ao : Option Addr} (h : AOwnE w base ao n cap) (hn : 0 < n) : ∃ g, ao = some ⟨g, 0, none⟩ ∧ base ≤ g ∧ g < w.heap.size ∧ (∀ j, j < n * 3 → ∃ v, w.cell? ⟨g, j, none⟩ = some (.int .i64 v)) ∧ (∀ j, w.frozen? ⟨g, j, none⟩ = false) ∧ ∀ j v, AOwnE (w.setCell ⟨g, j, none⟩ (.int .i64 v)) base (some ⟨g, 0, none⟩) n cap := by
  obtain ⟨f, hl, h0 | ⟨g, cap', cur, hv, hb', hh, h1, h2, h3, h4⟩⟩ := h
  · omega
  · simp at hv
    obtain ⟨rfl, rfl⟩ := hv
    have hc : ∀ j, j < n * 3 → cur[j]? = some (.int .i64 (f j)) := fun j hj => by
      have : (cur.toList.take (n * 3))[j]? = (cellsOf f (n * 3))[j]? := by rw [h4]
      rw [List.getElem?_take_of_lt hj, cellsOf, List.getElem?_map, List.getElem?_range hj] at this
      simpa using this
    refine ⟨g, rfl, hb', (Array.getElem?_eq_some_iff.1 hh).1, fun j hj => ⟨f j, by simp [World.cell?, hh, hc j hj]⟩, fun j => by simp [World.frozen?, hh], fun j v => ?_⟩
    refine ⟨fun i => if i = j then v else f i, by simp [cellsOf], .inr ⟨g, cap, cur.setIfInBounds j (.int .i64 v), rfl, hb', ?_, h1, h2, by simpa using h3, ?_⟩⟩
    · simp [World.setCell, Array.getElem?_modify, hh]
    · apply List.ext_getElem?
      intro i
      by_cases hi : i < n * 3
      · have hcs : n * 3 ≤ cur.size := by rw [h3]; exact Nat.mul_le_mul_right 3 h1
        rw [List.getElem?_take_of_lt hi, cellsOf, List.getElem?_map, List.getElem?_range hi, Array.getElem?_toList, Array.getElem?_setIfInBounds]
        by_cases e : i = j
        · subst e
          rw [if_pos rfl, if_pos (by omega)]
          simp
        · rw [if_neg (fun h => e h.symm), hc i hi]
          simp [e]
      · rw [List.getElem?_eq_none (by simp; omega), List.getElem?_eq_none (by simp [cellsOf]; omega)]
/-- A store into the map's arcs. -/
theorem DS.put {w : World} {base c : Nat} {ao : Option Addr} {n cap rb gb : Nat} {p : Int} {k gc g : Nat} {W : World} (h : DS w base c ao n cap rb gb p (some ⟨g, 0, none⟩) k gc W) (hc : (c < rb ∧ rb < gb) ∧ w.heap.size ≤ rb) (hk : 0 < k) (j : Nat) (v : Int) : DS w base c ao n cap rb gb p (some ⟨g, 0, none⟩) k gc (W.setCell ⟨g, j, none⟩ (.int .i64 v)) := by
  obtain ⟨g', e, h1, h2, _, _, h5⟩ := h.own.cells hk
  cases e
  have hng : g ≠ gb := h.ne _ rfl
  have hs := gr_setCell W g j (.int .i64 v)
  have hge := h.cur.ge
  exact ⟨h.cur.grown hs (by omega) (by omega), h.box.grown hs (by simp; omega), h5 j v, h.ne, h.res.grown hs (by simp; omega), gr_far h.gr hs (fun x e => by cases e; exact h1) (by omega)⟩
/-- A store of the number of places. -/
theorem DS.places {w : World} {base c : Nat} {ao : Option Addr} {n cap rb gb : Nat} {p : Int} {go : Option Addr} {k gc : Nat} {W : World} (h : DS w base c ao n cap rb gb p go k gc W) (hc : (c < rb ∧ rb < gb) ∧ w.heap.size ≤ rb) (p' : Int) : DS w base c ao n cap rb gb p' go k gc (W.setCell ⟨gb, 0, none⟩ (.int .i64 p')) := by
  have hs := gr_setCell W gb 0 (.int .i64 p')
  have hge := h.cur.ge
  refine ⟨h.cur.grown hs (by omega) (by omega), (h.box.set 0 _).congr (fun j hj => ?_), ?_, h.ne, h.res.grown hs (by simp; omega), gr_far h.gr hs (fun x e => by cases e; exact Nat.le_refl _) (by omega)⟩
  · have : j = 0 ∨ j = 1 := by omega
    rcases this with rfl | rfl <;> rfl
  · obtain ⟨f, hl, h0 | ⟨g, cap', cur, hv, hb, hh, rest⟩⟩ := h.own
    · exact ⟨f, hl, .inl h0⟩
    · have hv' := hv
      simp at hv'
      have := h.ne _ hv'.1
      exact ⟨f, hl, .inr ⟨g, cap', cur, hv, hb, (hs.block g (Array.getElem?_eq_some_iff.1 hh).1 (by simp; exact this)).trans hh, rest⟩⟩

/-- A new map in the box. -/
theorem DS.reset {w : World} {base c : Nat} {ao : Option Addr} {n cap rb gb : Nat} {p : Int} {go : Option Addr} {k gc : Nat} {W : World} (h : DS w base c ao n cap rb gb p go k gc W) (hc : (c < rb ∧ rb < gb) ∧ w.heap.size ≤ rb) (p' : Int) : DS w base c ao n cap rb gb p' none 0 0 ((W.setCell ⟨gb, 0, none⟩ (.int .i64 p')).setCell ⟨gb, 1, none⟩ (.slice none 0 0)) := by
  have hs := (gr_setCell W gb 0 (.int .i64 p')).trans (gr_setCell _ gb 1 (.slice none 0 0))
  have hge := h.cur.ge
  refine ⟨h.cur.grown hs (by omega) (by omega), ((h.box.set 0 _).set 1 _).congr (fun j hj => ?_), aown_nil _ _, (fun a e => by cases e), h.res.grown hs (by simp; omega), gr_far h.gr hs (fun x e => by cases e; exact Nat.le_refl _) (by omega)⟩
  have : j = 0 ∨ j = 1 := by omega
  rcases this with rfl | rfl <;> rfl

set_option maxRecDepth 100000 in
set_option maxHeartbeats 8000000 in
theorem l1DrawAny_any (base c : Nat) (ao : Option Addr) (n cap : Nat) (w : World) (hC : CurAt w base c ao n cap) :
    Calls Try.prog 43 #[.pointer (some ⟨c, 0, none⟩)] w fun e w' => ∃ (p : Int) (go : Option Addr) (k gc : Nat), e = .returned (.agg #[.int .i64 p, .slice go k gc]) ∧ k ≤ 200 ∧ AOwnE w' w.heap.size go k gc ∧ CurAt w' base c ao n cap ∧ w.grownBy w' (some c) := by
  have hcl := hC.lt
  have hC0 := hC.next ((Below.refl _ w).alloc (Nat.le_refl _) (.cells #[.int .i64 0, .slice none 0 0] 26))
  go_enter Try.func43, Try.ntmps43
  go_wp2_with fail
  refine (l1Draw_any base c ao n cap _ hC0).mono ?_
  rintro e w1 ⟨p, go, k, gc, rfl, hpp, hk, hO1, hC1, hg1⟩
  have hrb1 := (gr_new w 0 (.slice none 0 0)).grown hg1 (by simp; omega)
  have hs1 := hrb1.lt
  have hD1 : DS w base c ao n cap w.heap.size w1.heap.size (p : Int) go k gc (w1.alloc (.cells #[.int .i64 (p : Int), .slice go k gc] 26)) :=
    ⟨hC1.next ((Below.refl _ w1).alloc (Nat.le_refl _) _), gr_new w1 _ _, (by simpa using hO1.next ((Below.refl _ w1).alloc (Nat.le_refl _) _)), (fun a e => by subst e; have := (hO1.at rfl).2; omega), hrb1.alloc _, ((World.grownBy_alloc w _ _).trans hg1).trans (World.grownBy_alloc w1 _ _)⟩
  clear hC1 hg1 hO1 hrb1 hC0
  go_wp2_with fail
  refine (l1Once_any base c ao n cap 12 (by omega) (by omega) _ hD1.cur).mono ?_
  rintro e w2 ⟨bx, rfl, hC2, hg2⟩
  have hD2 := hD1.step ⟨hcl, hs1⟩ hC2 hg2
  clear hD1 hC2 hg2
  obtain ⟨gb, hgb⟩ : ∃ gb, w1.heap.size = gb := ⟨_, rfl⟩
  rw [hgb] at hD2 hs1 ⊢
  clear hgb
  cases bx
  · skip
    have r0 : w2.cell? ⟨w.heap.size, 0, none⟩ = some (.int .i64 0) := hD2.res.cell (j := 0) (by omega)
    have r1 : w2.cell? ⟨w.heap.size, 1, none⟩ = some (.slice none 0 0) := hD2.res.cell (j := 1) (by omega)
    have y0 := hD2.res.frozen 0
    have y1 := hD2.res.frozen 1
    have b0 : w2.cell? ⟨gb, 0, none⟩ = some (.int .i64 (p : Int)) := hD2.box.cell (j := 0) (by omega)
    have b1 : w2.cell? ⟨gb, 1, none⟩ = some (.slice go k gc) := hD2.box.cell (j := 1) (by omega)
    obtain ⟨q0, q1, q2⟩ := res_cells hD2.res (p : Int) (.slice go k gc)
    obtain ⟨o1, o2, o3⟩ := hD2.out ⟨⟨hcl, hs1⟩, Nat.le_refl _⟩ (.int .i64 (p : Int)) (.slice go k gc)
    go_wp2
    simp [bodyPost, results, Try.results43, go_sem, q0, q1, q2]
    exact ⟨_, _, _, _, ⟨rfl, rfl, rfl, rfl⟩, by omega, o1, o2, o3⟩
  go_wp2_with fail
  refine (l1Below_any base c ao n cap 5 (by omega) (by omega) _ hD2.cur).mono ?_
  rintro e w3 ⟨x, rfl, hx, hC3, hg3⟩
  have hD3 := hD2.step ⟨hcl, hs1⟩ hC3 hg3
  clear hD2 hC3 hg3
  have hgl3 := hD3.box.lt
  have hx5 : x = 0 ∨ x = 1 ∨ x = 2 ∨ x = 3 ∨ x = 4 := by omega
  rcases hx5 with rfl | rfl | rfl | rfl | rfl
  · have hal := (Below.refl w3.heap.size w3).alloc (Nat.le_refl _) (.cells #[.int .i64 0, .int .i64 24, .int .i64 25, .int .i64 1, .int .i64 (-9223372036854775808)] 2)
    go_wp2_with fail
    refine (l1Below_any base c ao n cap 5 (by omega) (by omega) _ (hD3.next hal).cur).mono ?_
    rintro e w4 ⟨y, rfl, hy, hC4, hg4⟩
    have hD4 := (hD3.next hal).step ⟨hcl, hs1⟩ hC4 hg4
    obtain ⟨v, hv⟩ := lit5 ((hg4.block w3.heap.size (by simp) (by simp; omega)).trans (Go.Deep.blk_alloc_new _ _)) (show y < 5 by omega)
    clear hC4 hg4 hD3 hal
    have hy' : (y : Int) < 5 := by omega
    have c0 : w4.cell? ⟨gb, 0, none⟩ = some (.int .i64 (p : Int)) := hD4.box.cell (j := 0) (by omega)
    have z0 := hD4.box.frozen 0
    have hD5 := hD4.places ⟨⟨hcl, hs1⟩, Nat.le_refl _⟩ v
    clear hD4
    have r0 : (w4.setCell ⟨gb, 0, none⟩ (.int .i64 v)).cell? ⟨w.heap.size, 0, none⟩ = some (.int .i64 0) := hD5.res.cell (j := 0) (by omega)
    have r1 : (w4.setCell ⟨gb, 0, none⟩ (.int .i64 v)).cell? ⟨w.heap.size, 1, none⟩ = some (.slice none 0 0) := hD5.res.cell (j := 1) (by omega)
    have y0 := hD5.res.frozen 0
    have y1 := hD5.res.frozen 1
    have b0 : (w4.setCell ⟨gb, 0, none⟩ (.int .i64 v)).cell? ⟨gb, 0, none⟩ = some (.int .i64 v) := hD5.box.cell (j := 0) (by omega)
    have b1 : (w4.setCell ⟨gb, 0, none⟩ (.int .i64 v)).cell? ⟨gb, 1, none⟩ = some (.slice go k gc) := hD5.box.cell (j := 1) (by omega)
    obtain ⟨q0, q1, q2⟩ := res_cells hD5.res v (.slice go k gc)
    obtain ⟨o1, o2, o3⟩ := hD5.out ⟨⟨hcl, hs1⟩, Nat.le_refl _⟩ (.int .i64 v) (.slice go k gc)
    go_wp2
    simp [bodyPost, results, Try.results43, go_sem, q0, q1, q2]
    exact ⟨_, _, _, _, ⟨rfl, rfl, rfl, rfl⟩, by omega, o1, o2, o3⟩
  · have b1 : w3.cell? ⟨gb, 1, none⟩ = some (.slice go k gc) := hD3.box.cell (j := 1) (by omega)
    have hDc := hD3.next (Below.refl _ w3).drew
    clear hD3
    go_wp2
    go_region_law (first | (go_simp; go_at_call 85; refine (l1From_any base c ao n cap _ hDc.cur).mono ?_; rintro e w5 ⟨zz, rfl, hC5, hg5⟩; replace hDc := hDc.step ⟨hcl, hs1⟩ hC5 hg5; have b5 : w5.cell? ⟨gb, 1, none⟩ = some (.slice go k gc) := hDc.box.cell (j := 1) (by omega); have hl5 := hDc.box.lt; clear hC5 hg5) | (refine step_append_arc ?_ (.tmp 25) (.tmp 31) ?_ (w.heap.size + 1) k gc go ?_ (hDc.own.next ((Below.refl _ _).alloc (Nat.le_refl _) _)) w5.heap.size ?_ _ _ _ (Go.Deep.blk_alloc_new _ _) (by omega) (by have := hDc.box.lt; simp; omega) ?_; rfl; rfl; rfl; rfl; intro g' gc' w6 hown6 hgrow hr6; have hbx6 := (hDc.box.alloc _).grown hgrow (fun e => (hDc.row e.symm).2 rfl); have hb6 : w6.cell? ⟨gb, 1, none⟩ = some (.slice go k gc) := hbx6.cell (j := 1) (by omega); have hz6 := hbx6.frozen 1))
    all_goals
      have R := (hDc.next ((Below.refl _ _).alloc (Nat.le_refl _) _)).appended ⟨⟨hcl, hs1⟩, Nat.le_refl _⟩ hgrow hown6 hr6
      clear hbx6 hb6 hz6 hDc hgrow hown6 hr6
      have r0 : (w6.setCell ⟨gb, 1, none⟩ (.slice (some ⟨g', 0, none⟩) (k + 1) gc')).cell? ⟨w.heap.size, 0, none⟩ = some (.int .i64 0) := R.res.cell (j := 0) (by omega)
      have r1 : (w6.setCell ⟨gb, 1, none⟩ (.slice (some ⟨g', 0, none⟩) (k + 1) gc')).cell? ⟨w.heap.size, 1, none⟩ = some (.slice none 0 0) := R.res.cell (j := 1) (by omega)
      have y0 := R.res.frozen 0
      have y1 := R.res.frozen 1
      have b0 : (w6.setCell ⟨gb, 1, none⟩ (.slice (some ⟨g', 0, none⟩) (k + 1) gc')).cell? ⟨gb, 0, none⟩ = some (.int .i64 (p : Int)) := R.box.cell (j := 0) (by omega)
      have b1 : (w6.setCell ⟨gb, 1, none⟩ (.slice (some ⟨g', 0, none⟩) (k + 1) gc')).cell? ⟨gb, 1, none⟩ = some (.slice (some ⟨g', 0, none⟩) (k + 1) gc') := R.box.cell (j := 1) (by omega)
      obtain ⟨q0, q1, q2⟩ := res_cells R.res (p : Int) (.slice (some ⟨g', 0, none⟩) (k + 1) gc')
      obtain ⟨o1, o2, o3⟩ := R.out ⟨⟨hcl, hs1⟩, Nat.le_refl _⟩ (.int .i64 (p : Int)) (.slice (some ⟨g', 0, none⟩) (k + 1) gc')
      go_wp2
      simp [bodyPost, results, Try.results43, go_sem, q0, q1, q2]
      exact ⟨_, _, _, _, ⟨rfl, rfl, rfl, rfl⟩, by omega, o1, o2, o3⟩
  · by_cases h0 : 0 < k
    rotate_left
    · have h0' : ¬ 0 < (k : Int) := by omega
      have r0 : w3.cell? ⟨w.heap.size, 0, none⟩ = some (.int .i64 0) := hD3.res.cell (j := 0) (by omega)
      have r1 : w3.cell? ⟨w.heap.size, 1, none⟩ = some (.slice none 0 0) := hD3.res.cell (j := 1) (by omega)
      have y0 := hD3.res.frozen 0
      have y1 := hD3.res.frozen 1
      have b0 : w3.cell? ⟨gb, 0, none⟩ = some (.int .i64 (p : Int)) := hD3.box.cell (j := 0) (by omega)
      have b1 : w3.cell? ⟨gb, 1, none⟩ = some (.slice go k gc) := hD3.box.cell (j := 1) (by omega)
      obtain ⟨q0, q1, q2⟩ := res_cells hD3.res (p : Int) (.slice go k gc)
      obtain ⟨o1, o2, o3⟩ := hD3.out ⟨⟨hcl, hs1⟩, Nat.le_refl _⟩ (.int .i64 (p : Int)) (.slice go k gc)
      go_wp2
      simp [bodyPost, results, Try.results43, go_sem, q0, q1, q2]
      exact ⟨_, _, _, _, ⟨rfl, rfl, rfl, rfl⟩, by omega, o1, o2, o3⟩
    have h0' : 0 < (k : Int) := by omega
    obtain ⟨g, rfl, hg0, hg1, _, _, _⟩ := hD3.own.cells h0
    have b1 : w3.cell? ⟨gb, 1, none⟩ = some (.slice (some ⟨g, 0, none⟩) k gc) := hD3.box.cell (j := 1) (by omega)
    have hng : g ≠ gb := hD3.ne _ rfl
    have hDd := hD3.next (Below.refl _ w3).drew
    have hDa := (hD3.next ((Below.refl _ w3).alloc (Nat.le_refl _) (.cells #[.int .i64 0, .int .i64 1000000, .int .i64 1000001, .int .i64 (-1)] 2))).next (Below.refl _ _).drew
    clear hD3
    go_wp2
    go_region_law (first
      | (go_simp; go_at_call 53; refine (l1Below_any base c ao n cap 4 (by omega) (by omega) _ hDa.cur).mono ?_; rintro e w5 ⟨y, rfl, hy, hC5, hg5⟩; have hDs := hDa.step ⟨hcl, hs1⟩ hC5 hg5; obtain ⟨v, hv⟩ := lit4 ((hg5.block w3.heap.size (by simp) (by simp <;> omega)).trans (Go.Deep.blk_alloc_new w3 (.cells #[.int .i64 0, .int .i64 1000000, .int .i64 1000001, .int .i64 (-1)] 2))) (show y < 4 by omega); obtain ⟨g5, eg5, _, hgl5, hcs5, hfz5, _⟩ := hDs.own.cells h0; cases eg5; obtain ⟨u2, e2⟩ := hcs5 2 (by omega); have f2 := hfz5 2; have b5 : w5.cell? ⟨gb, 1, none⟩ = some (.slice (some ⟨g, 0, none⟩) k gc) := hDs.box.cell (j := 1) (by omega); have hl5 := hDs.box.lt; have hy4 : (y : Int) < 4 := (by omega); clear hC5 hg5 hcs5 hfz5)
      | (go_simp; go_at_call 53; refine (l1Below_any base c ao n cap 4 (by omega) (by omega) _ hDd.cur).mono ?_; rintro e w5 ⟨y, rfl, hy, hC5, hg5⟩; have hDs := hDd.step ⟨hcl, hs1⟩ hC5 hg5; obtain ⟨v, hv⟩ := lit4 (Go.Deep.blk_alloc_new w5 (.cells #[.int .i64 0, .int .i64 1000000, .int .i64 1000001, .int .i64 (-1)] 2)) (show y < 4 by omega); obtain ⟨g5, eg5, _, hgl5, hcs5, hfz5, _⟩ := hDs.own.cells h0; cases eg5; obtain ⟨u2, e2⟩ := hcs5 2 (by omega); have f2 := hfz5 2; have b5 : w5.cell? ⟨gb, 1, none⟩ = some (.slice (some ⟨g, 0, none⟩) k gc) := hDs.box.cell (j := 1) (by omega); have hl5 := hDs.box.lt; have hy4 : (y : Int) < 4 := (by omega); clear hC5 hg5 hcs5 hfz5))
    all_goals
      have b0 : w5.cell? ⟨gb, 0, none⟩ = some (.int .i64 (p : Int)) := hDs.box.cell (j := 0) (by omega)
      have r0 : w5.cell? ⟨w.heap.size, 0, none⟩ = some (.int .i64 0) := hDs.res.cell (j := 0) (by omega)
      have r1 : w5.cell? ⟨w.heap.size, 1, none⟩ = some (.slice none 0 0) := hDs.res.cell (j := 1) (by omega)
      have y0 := hDs.res.frozen 0
      have y1 := hDs.res.frozen 1
      have hgr1 : g ≠ w.heap.size := by omega
      have hgr2 : w.heap.size ≠ g := by omega
      have hgr3 : w.heap.size ≠ gb := by omega
      have hng2 : gb ≠ g := fun e => hng e.symm
      have hrl : w.heap.size < w5.heap.size := by omega
      clear hDd hDa
      first
      | (have R := hDs.put ⟨⟨hcl, hs1⟩, Nat.le_refl _⟩ h0 2 v
         obtain ⟨q0, q1, q2⟩ := res_cells R.res (p : Int) (.slice (some ⟨g, 0, none⟩) k gc)
         obtain ⟨o1, o2, o3⟩ := R.out ⟨⟨hcl, hs1⟩, Nat.le_refl _⟩ (.int .i64 (p : Int)) (.slice (some ⟨g, 0, none⟩) k gc)
         go_wp2
         simp [bodyPost, results, Try.results43, go_sem, q0, q1, q2]
         exact ⟨_, _, _, _, ⟨rfl, rfl, rfl, rfl⟩, by omega, o1, o2, o3⟩)
      | (have R := hDs.put ⟨⟨hcl, hs1⟩, Nat.le_refl _⟩ h0 2 v
         obtain ⟨q0, q1, q2⟩ := res_cells R.res (p : Int) (.slice (some ⟨g, 0, none⟩) k gc)
         obtain ⟨o1, o2, o3⟩ := R.out ⟨⟨hcl, hs1⟩, Nat.le_refl _⟩ (.int .i64 (p : Int)) (.slice (some ⟨g, 0, none⟩) k gc)
         go_wp2
         simp [bodyPost, results, Try.results43, go_sem, q0, q1, q2, hrl]
         exact ⟨_, _, _, _, ⟨rfl, rfl, rfl, rfl⟩, by omega, o1.next ((Below.refl _ _).alloc (Nat.le_refl _) _), o2.next ((Below.refl _ _).alloc (Nat.le_refl _) _), o3.trans (World.grownBy_alloc _ _ _)⟩)
  · have c0 : w3.cell? ⟨gb, 0, none⟩ = some (.int .i64 (p : Int)) := hD3.box.cell (j := 0) (by omega)
    have c1 : w3.cell? ⟨gb, 1, none⟩ = some (.slice go k gc) := hD3.box.cell (j := 1) (by omega)
    have z0 := hD3.box.frozen 0
    have z1 := hD3.box.frozen 1
    have hD4 := hD3.reset ⟨⟨hcl, hs1⟩, Nat.le_refl _⟩ 24
    clear hD3
    go_wp2
    clear c0 c1 z0 z1
    go_loopw [4] (fun x wr => ∃ (i gc : Nat) (go : Option Addr), i ≤ 101 ∧ x = .int .i64 i ∧ DS w base c ao n cap w.heap.size gb 24 go i gc wr) (fun x _ => 101 - (intOf x).toNat)
    case atStart => exact ⟨0, 0, none, by omega, rfl, hD4⟩
    case round =>
      clear hD4
      obtain ⟨i, gc, go, hi, rfl, hD⟩ := hrel
      go_wp2_with fail
      refine (l1Below_any base c ao n cap 2 (by omega) (by omega) _ hD.cur).mono ?_
      rintro e w5 ⟨x, rfl, hx2, hC5, hg5⟩
      have hD5 := hD.step ⟨hcl, hs1⟩ hC5 hg5
      clear hD hC5 hg5
      have hl5 := hD5.box.lt
      by_cases hlt : i < 100 + x
      rotate_left
      · have hlt' : ¬ (i : Int) < 100 + (x : Int) := by omega
        have r0 : w5.cell? ⟨w.heap.size, 0, none⟩ = some (.int .i64 0) := hD5.res.cell (j := 0) (by omega)
        have r1 : w5.cell? ⟨w.heap.size, 1, none⟩ = some (.slice none 0 0) := hD5.res.cell (j := 1) (by omega)
        have y0 := hD5.res.frozen 0
        have y1 := hD5.res.frozen 1
        have b0 : w5.cell? ⟨gb, 0, none⟩ = some (.int .i64 24) := hD5.box.cell (j := 0) (by omega)
        have b1 : w5.cell? ⟨gb, 1, none⟩ = some (.slice go i gc) := hD5.box.cell (j := 1) (by omega)
        obtain ⟨q0, q1, q2⟩ := res_cells hD5.res 24 (.slice go i gc)
        obtain ⟨o1, o2, o3⟩ := hD5.out ⟨⟨hcl, hs1⟩, Nat.le_refl _⟩ (.int .i64 24) (.slice go i gc)
        go_wp2
        simp [bodyPost, results, Try.results43, go_sem, q0, q1, q2]
        exact ⟨_, _, _, _, ⟨rfl, rfl, rfl, rfl⟩, by omega, o1, o2, o3⟩
      have hlt' : (i : Int) < 100 + (x : Int) := by omega
      have b1 : w5.cell? ⟨gb, 1, none⟩ = some (.slice go i gc) := hD5.box.cell (j := 1) (by omega)
      go_wp2_with (at_builtin; refine wpList_append_arc rfl _ _ rfl (w.heap.size + 1) i gc go rfl (hD5.own.next ((Below.refl _ _).alloc (Nat.le_refl _) _)) w5.heap.size rfl _ _ _ (Go.Deep.blk_alloc_new _ _) (by omega) (by simp; omega) ?_; intro g' gc' w6 hown6 hgrow hr6; have hbx6 := (hD5.box.alloc _).grown hgrow (fun e => (hD5.row e.symm).2 rfl); have hb6 : w6.cell? ⟨gb, 1, none⟩ = some (.slice go i gc) := hbx6.cell (j := 1) (by omega); have hz6 := hbx6.frozen 1)
      all_goals
        have R := (hD5.next ((Below.refl _ _).alloc (Nat.le_refl _) _)).appended ⟨⟨hcl, hs1⟩, Nat.le_refl _⟩ hgrow hown6 hr6
        clear hbx6 hb6 hz6 hD5 hgrow hown6 hr6
        go_wp2
        go_roundw
        case rel => exact ⟨i + 1, gc', _, by omega, by go_num, R⟩
        case measure => simp [intOf]; omega
  · by_cases h1 : 1 < k
    rotate_left
    · have h1' : ¬ 1 < (k : Int) := by omega
      have r0 : w3.cell? ⟨w.heap.size, 0, none⟩ = some (.int .i64 0) := hD3.res.cell (j := 0) (by omega)
      have r1 : w3.cell? ⟨w.heap.size, 1, none⟩ = some (.slice none 0 0) := hD3.res.cell (j := 1) (by omega)
      have y0 := hD3.res.frozen 0
      have y1 := hD3.res.frozen 1
      have b0 : w3.cell? ⟨gb, 0, none⟩ = some (.int .i64 (p : Int)) := hD3.box.cell (j := 0) (by omega)
      have b1 : w3.cell? ⟨gb, 1, none⟩ = some (.slice go k gc) := hD3.box.cell (j := 1) (by omega)
      obtain ⟨q0, q1, q2⟩ := res_cells hD3.res (p : Int) (.slice go k gc)
      obtain ⟨o1, o2, o3⟩ := hD3.out ⟨⟨hcl, hs1⟩, Nat.le_refl _⟩ (.int .i64 (p : Int)) (.slice go k gc)
      go_wp2
      simp [bodyPost, results, Try.results43, go_sem, q0, q1, q2]
      exact ⟨_, _, _, _, ⟨rfl, rfl, rfl, rfl⟩, by omega, o1, o2, o3⟩
    have h1' : 1 < (k : Int) := by omega
    obtain ⟨g, rfl, hg0, hg1, hcs, hfz, _⟩ := hD3.own.cells (by omega)
    obtain ⟨v0, e0⟩ := hcs 0 (by omega)
    obtain ⟨v1, e1⟩ := hcs 1 (by omega)
    obtain ⟨v2, e2⟩ := hcs 2 (by omega)
    have b1 : w3.cell? ⟨gb, 1, none⟩ = some (.slice (some ⟨g, 0, none⟩) k gc) := hD3.box.cell (j := 1) (by omega)
    have hal := (Below.refl w3.heap.size w3).alloc (Nat.le_refl _) (.cells #[.int .i64 v0, .int .i64 v1, .int .i64 v2] 36)
    have hDz := hD3.next hal
    have xa0 : (w3.alloc (.cells #[.int .i64 v0, .int .i64 v1, .int .i64 v2] 36)).cell? ⟨w3.heap.size, 0, none⟩ = some (.int .i64 v0) := by simp [go_sem]
    have xa1 : (w3.alloc (.cells #[.int .i64 v0, .int .i64 v1, .int .i64 v2] 36)).cell? ⟨w3.heap.size, 1, none⟩ = some (.int .i64 v1) := by simp [go_sem]
    have xa2 : (w3.alloc (.cells #[.int .i64 v0, .int .i64 v1, .int .i64 v2] 36)).cell? ⟨w3.heap.size, 2, none⟩ = some (.int .i64 v2) := by simp [go_sem]
    go_wp2
    clear hal hcs hfz b1 hD3 e0 e1 e2
    have hxg : g ≠ w3.heap.size := by omega
    have hxb : gb ≠ w3.heap.size := by omega
    generalize w3.alloc (.cells #[.int .i64 v0, .int .i64 v1, .int .i64 v2] 36) = wz at hDz xa0 xa1 xa2 ⊢
    generalize w3.heap.size = xb at xa0 xa1 xa2 hxg hxb ⊢
    obtain ⟨g', e, _, _, hcs, hfz, _⟩ := hDz.own.cells (by omega)
    cases e
    obtain ⟨u0, e0⟩ := hcs 0 (by omega)
    obtain ⟨u1, e1⟩ := hcs 1 (by omega)
    obtain ⟨u2, e2⟩ := hcs 2 (by omega)
    obtain ⟨u3, e3⟩ := hcs 3 (by omega)
    obtain ⟨u4, e4⟩ := hcs 4 (by omega)
    obtain ⟨u5, e5⟩ := hcs 5 (by omega)
    have f0 := hfz 0
    have f1 := hfz 1
    have f2 := hfz 2
    have b1 : wz.cell? ⟨gb, 1, none⟩ = some (.slice (some ⟨g, 0, none⟩) k gc) := hDz.box.cell (j := 1) (by omega)
    have hng : g ≠ gb := hDz.ne _ rfl
    have hng2 : gb ≠ g := fun e => hng e.symm
    have HD : Hid (DS w base c ao n cap w.heap.size gb (p : Int) (some ⟨g, 0, none⟩) k gc wz) := hDz
    have hk1 : (1 : Int) < (k : Int) := by omega
    have hk2 : (0 : Int) < (k : Int) := by omega
    clear hcs hfz hDz
    go_big_region
    have hDy := (((HD.out.put ⟨⟨hcl, hs1⟩, Nat.le_refl _⟩ (by omega) 0 u3).put ⟨⟨hcl, hs1⟩, Nat.le_refl _⟩ (by omega) 1 u4).put ⟨⟨hcl, hs1⟩, Nat.le_refl _⟩ (by omega) 2 u5).next (Below.refl _ _).drew
    have hgs := ((gr_setCell wz g 0 (.int .i64 u3)).trans (gr_setCell _ g 1 (.int .i64 u4))).trans (gr_setCell _ g 2 (.int .i64 u5))
    have ya0 : (((wz.setCell ⟨g, 0, none⟩ (.int .i64 u3)).setCell ⟨g, 1, none⟩ (.int .i64 u4)).setCell ⟨g, 2, none⟩ (.int .i64 u5)).drew.cell? ⟨xb, 0, none⟩ = some (.int .i64 v0) := hgs.cell xa0 (by simp; omega)
    have ya1 : (((wz.setCell ⟨g, 0, none⟩ (.int .i64 u3)).setCell ⟨g, 1, none⟩ (.int .i64 u4)).setCell ⟨g, 2, none⟩ (.int .i64 u5)).drew.cell? ⟨xb, 1, none⟩ = some (.int .i64 v1) := hgs.cell xa1 (by simp; omega)
    have ya2 : (((wz.setCell ⟨g, 0, none⟩ (.int .i64 u3)).setCell ⟨g, 1, none⟩ (.int .i64 u4)).setCell ⟨g, 2, none⟩ (.int .i64 u5)).drew.cell? ⟨xb, 2, none⟩ = some (.int .i64 v2) := hgs.cell xa2 (by simp; omega)
    clear HD e0 e1 e2 e3 e4 e5 f0 f1 f2 b1 xa0 xa1 xa2 hgs
    generalize (((wz.setCell ⟨g, 0, none⟩ (.int .i64 u3)).setCell ⟨g, 1, none⟩ (.int .i64 u4)).setCell ⟨g, 2, none⟩ (.int .i64 u5)).drew = wy at hDy ya0 ya1 ya2 ⊢
    obtain ⟨g', e, _, _, hcs, hfz, _⟩ := hDy.own.cells (by omega)
    cases e
    obtain ⟨t3, e3⟩ := hcs 3 (by omega)
    obtain ⟨t4, e4⟩ := hcs 4 (by omega)
    obtain ⟨t5, e5⟩ := hcs 5 (by omega)
    have f3 := hfz 3
    have f4 := hfz 4
    have f5 := hfz 5
    have b1 : wy.cell? ⟨gb, 1, none⟩ = some (.slice (some ⟨g, 0, none⟩) k gc) := hDy.box.cell (j := 1) (by omega)
    have hDx := ((hDy.put ⟨⟨hcl, hs1⟩, Nat.le_refl _⟩ (by omega) 3 v0).put ⟨⟨hcl, hs1⟩, Nat.le_refl _⟩ (by omega) 4 v1).put ⟨⟨hcl, hs1⟩, Nat.le_refl _⟩ (by omega) 5 v2
    have b0 : wy.cell? ⟨gb, 0, none⟩ = some (.int .i64 (p : Int)) := hDy.box.cell (j := 0) (by omega)
    have r0 : wy.cell? ⟨w.heap.size, 0, none⟩ = some (.int .i64 0) := hDy.res.cell (j := 0) (by omega)
    have r1 : wy.cell? ⟨w.heap.size, 1, none⟩ = some (.slice none 0 0) := hDy.res.cell (j := 1) (by omega)
    have y0 := hDy.res.frozen 0
    have y1 := hDy.res.frozen 1
    have hgr1 : g ≠ w.heap.size := by omega
    have hgr2 : w.heap.size ≠ g := by omega
    have hgr3 : w.heap.size ≠ gb := by omega
    obtain ⟨q0, q1, q2⟩ := res_cells hDx.res (p : Int) (.slice (some ⟨g, 0, none⟩) k gc)
    obtain ⟨o1, o2, o3⟩ := hDx.out ⟨⟨hcl, hs1⟩, Nat.le_refl _⟩ (.int .i64 (p : Int)) (.slice (some ⟨g, 0, none⟩) k gc)
    clear hcs hfz hDy
    go_wp2
    simp [bodyPost, results, Try.results43, go_sem, q0, q1, q2]
    exact ⟨_, _, _, _, ⟨rfl, rfl, rfl, rfl⟩, by omega, o1, o2, o3⟩

end Go.Proofs.Ytdgnlpafmkhdjaa

/-
  What stands while something is drawn beside a map.
-/
set_option linter.unusedVariables false
set_option linter.unusedSimpArgs false
namespace Go.Proofs.Ytdgnlpafmkhdjaa
open Go.RowKit Go.Maps
attribute [local go_sem ↓] Go.wp_at_zero Go.wp_at_succ

/-- A map that was drawn: its arcs in new memory. -/
def Drawn (w w' : World) (ao : Option Addr) (n : Nat) : Prop := ∃ F T G : Nat → Int, Row w' ao n F T G ∧ ∀ a, ao = some a → 0 < n → w.heap.size ≤ a.block
theorem drawn_of {w w' : World} {base n cap : Nat} {ao : Option Addr} (h : AOwnE w' base ao n cap) (hb : w.heap.size ≤ base) : Drawn w w' ao n := by
  obtain ⟨F, T, G, hr, hg⟩ := h.row
  refine ⟨F, T, G, hr, fun a e hn => ?_⟩
  obtain ⟨g, e', hg'⟩ := hg hn
  rw [e] at e'
  cases e'
  exact Nat.le_trans hb hg'
theorem below_far {w W : World} {c : Nat} (h : w.grownBy W (some c)) (hc : w.heap.size ≤ c) : Below w.heap.size w W := gr_below h hc (Nat.le_refl _)

/-- What stands while something is drawn beside a map: the cursor, the box of a result, the map's box, its arcs. -/
structure DW (w : World) (base c : Nat) (ao : Option Addr) (n cap : Nat) (rb gb ob : Nat) (p : Int) (go : Option Addr) (k gc : Nat) (W : World) : Prop where
  cur : CurAt W base c ao n cap
  res : VHas W rb 26 2 (grV 0 (.slice none 0 0))
  box : VHas W gb 26 2 (grV p (.slice go k gc))
  own : AOwnE W ob go k gc
  bel : Below w.heap.size w W
theorem DW.step {w : World} {base c : Nat} {ao : Option Addr} {n cap rb gb ob : Nat} {p : Int} {go : Option Addr} {k gc : Nat} {W W' : World} (h : DW w base c ao n cap rb gb ob p go k gc W) (hc : (rb < c ∧ c < ob ∧ c < gb) ∧ w.heap.size ≤ c) (hC : CurAt W' base c ao n cap) (hg : W.grownBy W' (some c)) : DW w base c ao n cap rb gb ob p go k gc W' :=
  ⟨hC, h.res.grown hg (by simp; omega), h.box.grown hg (by simp; omega), h.own.grown hg (by omega), h.bel.trans (gr_below hg hc.2 h.bel.size)⟩
theorem DW.next {w : World} {base c : Nat} {ao : Option Addr} {n cap rb gb ob : Nat} {p : Int} {go : Option Addr} {k gc : Nat} {W W' : World} (h : DW w base c ao n cap rb gb ob p go k gc W) (hb : Below W.heap.size W W') : DW w base c ao n cap rb gb ob p go k gc W' :=
  ⟨h.cur.next hb, h.res.next hb, h.box.next hb, h.own.next hb, below_next h.bel (Nat.le_refl _) hb⟩
theorem DW.out {w : World} {base c : Nat} {ao : Option Addr} {n cap rb gb ob : Nat} {p : Int} {go : Option Addr} {k gc : Nat} {W : World} (h : DW w base c ao n cap rb gb ob p go k gc W) (hc : (rb < c ∧ c < ob ∧ c < gb) ∧ w.heap.size ≤ rb) (v0 v1 : Value) :
    Drawn w ((W.setCell ⟨rb, 0, none⟩ v0).setCell ⟨rb, 1, none⟩ v1) go k ∧ Below w.heap.size w ((W.setCell ⟨rb, 0, none⟩ v0).setCell ⟨rb, 1, none⟩ v1) := by
  have h1 := gr_setCell W rb 0 v0
  have h2 := gr_setCell (W.setCell ⟨rb, 0, none⟩ v0) rb 1 v1
  exact ⟨drawn_of ((h.own.grown h1 (by omega)).grown h2 (by omega)) (by omega), (h.bel.setCell (p := ⟨rb, 0, none⟩) hc.2 v0).setCell (p := ⟨rb, 1, none⟩) hc.2 v1⟩

end Go.Proofs.Ytdgnlpafmkhdjaa

/-
  Order, the document's: the list in which the places are taken away.
-/
set_option linter.unusedVariables false
set_option linter.unusedSimpArgs false
namespace Go.Proofs.Ytdgnlpafmkhdjaa
open Go.RowKit
attribute [local go_sem ↓] Go.wp_at_zero Go.wp_at_succ

def slen : Value → Nat
  | .slice _ n _ => n
  | _ => 0

/-- What stands while k places have been taken away: the list in block g, the square in bs, those that are gone in gb. -/
structure OS (base : Nat) (W0 : World) (p : Nat) (B : Nat → Nat → Bool) (bs gb g c k : Nat) (wr : World) : Prop where
  own : IOwn wr base g c k (run3 p B k).2.2
  sq : Sq wr bs p (run3 p B k).1
  gn : BHas wr gb p (run3 p B k).2.1
  bel : Below base W0 wr
theorem OS.next {base p bs gb g c k : Nat} {W0 wr w' : World} {B : Nat → Nat → Bool} (h : OS base W0 p B bs gb g c k wr) (hB : base ≤ W0.heap.size) (hb : Below wr.heap.size wr w') : OS base W0 p B bs gb g c k w' :=
  ⟨h.own.below hb h.own.lt, VHas.next h.sq hb, VHas.next h.gn hb, below_next h.bel hB hb⟩

theorem run3_sq (p : Nat) (B : Nat → Nat → Bool) (k : Nat) : (run3 p B (k + 1)).1 = tk (run3 p B k).1 (pick p (run3 p B k).1 (run3 p B k).2.1 p).1 := rfl
theorem run3_gn (p : Nat) (B : Nat → Nat → Bool) (k : Nat) : (run3 p B (k + 1)).2.1 = goneU (run3 p B k).2.1 (pick p (run3 p B k).1 (run3 p B k).2.1 p).1 := rfl
theorem run3_ls (p : Nat) (B : Nat → Nat → Bool) (k : Nat) : (run3 p B (k + 1)).2.2 = fun j => if j = k then ((pick p (run3 p B k).1 (run3 p B k).2.1 p).1 : Int) else (run3 p B k).2.2 j := rfl

/-- What the document's search for the next place holds: nothing yet, or the one that 'pick' tells. -/
def best (p : Nat) (B : Nat → Nat → Bool) (gone : Nat → Bool) (j : Nat) : Int := if noneB gone j then -1 else ((pick p B gone j).1 : Int)
def few (p : Nat) (B : Nat → Nat → Bool) (gone : Nat → Bool) (j : Nat) : Int := if noneB gone j then 0 else ((pick p B gone j).2 : Int)
theorem best_gone {p : Nat} {B : Nat → Nat → Bool} {gone : Nat → Bool} {j : Nat} (h : gone j = true) : best p B gone (j + 1) = best p B gone j ∧ few p B gone (j + 1) = few p B gone j := by
  have h1 : pick p B gone (j + 1) = pick p B gone j := by
    show (if gone j then pick p B gone j else _) = _
    rw [if_pos h]
  have h2 : noneB gone (j + 1) = noneB gone j := by simp [noneB, h]
  unfold best few
  rw [h1, h2]
  exact ⟨rfl, rfl⟩
theorem best_take {p : Nat} {B : Nat → Nat → Bool} {gone : Nat → Bool} {j : Nat} (hB : Fair B) (hj : j < p) (h : gone j = false) (hc : best p B gone j < 0 ∨ (cntB (B j) p : Int) < few p B gone j) : best p B gone (j + 1) = (j : Int) ∧ few p B gone (j + 1) = (cntB (B j) p : Int) := by
  have hlt : cntB (B j) p < (pick p B gone j).2 := by
    unfold best few at hc
    cases hn : noneB gone j
    · rw [hn] at hc
      simp at hc
      rcases hc with hc | hc
      · omega
      · exact hc
    · rw [pick_none j hn]
      exact cntB_less (i := j) hj (hB.2 j)
  have h1 : pick p B gone (j + 1) = (j, cntB (B j) p) := by
    show (if gone j then _ else if cntB (B j) p < (pick p B gone j).2 then (j, cntB (B j) p) else _) = _
    rw [if_neg (by rw [h]; simp), if_pos hlt]
  have h2 : noneB gone (j + 1) = false := by simp [noneB, h]
  unfold best few
  rw [h1, h2]
  exact ⟨rfl, rfl⟩
theorem best_stay {p : Nat} {B : Nat → Nat → Bool} {gone : Nat → Bool} {j : Nat} (h : gone j = false) (hc1 : ¬ best p B gone j < 0) (hc : ¬ (cntB (B j) p : Int) < few p B gone j) : best p B gone (j + 1) = best p B gone j ∧ few p B gone (j + 1) = few p B gone j := by
  have hn : noneB gone j = false := by
    cases hn : noneB gone j
    · rfl
    · simp [best, hn] at hc1
  unfold few at hc
  rw [hn] at hc
  simp at hc
  have h1 : pick p B gone (j + 1) = pick p B gone j := by
    show (if gone j then _ else if cntB (B j) p < (pick p B gone j).2 then (j, cntB (B j) p) else pick p B gone j) = _
    rw [if_neg (by rw [h]; simp), if_neg (by omega)]
  have h2 : noneB gone (j + 1) = false := by simp [noneB, h]
  unfold best few
  rw [h1, h2, hn]
  exact ⟨rfl, rfl⟩
theorem few_in {p : Nat} {B : Nat → Nat → Bool} {gone : Nat → Bool} (j : Nat) : 0 ≤ few p B gone j ∧ few p B gone j ≤ p := by
  unfold few
  have := pick_le (p := p) (B := B) (gone := gone) j
  split <;> omega

set_option maxHeartbeats 4000000 in
theorem l3Order_any (p : Nat) (ao : Option Addr) (n cap : Nat) (F T G : Nat → Int) (hp1 : 1 ≤ p) (hp : p ≤ 24) (hn : n ≤ 100) (hF : ∀ k, k < n → 0 ≤ F k ∧ F k < (p : Int)) (hT : ∀ k, k < n → 0 ≤ T k ∧ T k < (p : Int)) (hFT : ∀ k, k < n → F k ≠ T k) (w : World) (hr : Row w ao n F T G) :
    Calls Try.prog 70 #[.agg #[.int .i64 (p : Int), .slice ao n cap]] w fun e w' => ∃ g c, e = .returned (.slice (some ⟨g, 0, none⟩) p c) ∧ w.heap.size ≤ g ∧ IHas w' g p (run3 p (nbA F T n) p).2.2 ∧ Below w.heap.size w w' ∧ p ≤ c := by
  have hfair : Fair (nbA F T n) := fair_nbA n (fun k hk => by have := hF k hk; have := hT k hk; have := hFT k hk; omega)
  have hsqc := fun W hr' => l3Square_any p ao n cap F T G hp1 hp hn hF hT hFT W hr'
  generalize nbA F T n = B at hfair hsqc ⊢
  have HF : Hid (Fair B) := hfair
  have HSQ : Hid (∀ W, Row W ao n F T G → Calls Try.prog 93 #[.agg #[.int .i64 (p : Int), .slice ao n cap]] W fun e w' => e = .returned (.slice (some ⟨W.heap.size + 1, 0, none⟩) (p * p) (p * p)) ∧ Sq w' (W.heap.size + 1) p B ∧ Below W.heap.size W w') := hsqc
  clear hfair hsqc hF hT hFT
  go_enter Try.func70, Try.ntmps70
  go_wp2_with fail
  refine (HSQ.out _ (hr.alloc _)).mono ?_
  rintro e w1 ⟨rfl, hsq1, hb1⟩
  have hA1 := boxed hb1
  obtain ⟨x0, x1, xs⟩ := box2 hA1
  simp only [World.size_alloc] at hsq1 ⊢
  have hs1 := VHas.lt hsq1
  have hmk := make_bools p (by omega)
  go_wp2_with fail
  clear hmk
  have hO : OS (w.heap.size + 1) (w.alloc (.cells #[.int .i64 (p : Int), .slice ao n cap] 26)) p B (w.heap.size + 1 + 1) w1.heap.size (w1.heap.size + 1) 0 0 ((w1.alloc (.cells (madeCells #[.bool false] p) 4)).alloc (.cells #[] 2)) := by
    refine ⟨?_, ?_, ?_, (hA1.alloc (by omega) _).alloc (by simp; omega) _⟩
    · simpa using IOwn.empty (w1.alloc (.cells (madeCells #[.bool false] p) 4)) (base := w.heap.size + 1) (by simp; omega) _
    · exact (hsq1.alloc _).alloc _
    · exact (made_bools w1 p).alloc _
  clear hsq1 hb1 x0 x1
  go_loopw [5] (fun d wr => ∃ k g c : Nat, k ≤ p ∧ d = .slice (some ⟨g, 0, none⟩) k c ∧ OS (w.heap.size + 1) (w.alloc (.cells #[.int .i64 (p : Int), .slice ao n cap] 26)) p B (w.heap.size + 1 + 1) w1.heap.size g c k wr ∧ g ≠ (w.heap.size + 1 + 1) ∧ g ≠ w1.heap.size) (fun d _ => p - slen d)
  case atStart => exact ⟨0, _, 0, Nat.zero_le _, rfl, hO, by omega, by omega⟩
  case round =>
    clear hO
    obtain ⟨k, g, c, hk, rfl, hS, hg1, hg2⟩ := hrel
    obtain ⟨x0, x1, xs2⟩ := box2 hS.bel
    by_cases hlt : k < p
    rotate_left
    · have hkp : k = p := by omega
      subst hkp
      go_wp2
      go_ret
      exact ⟨g, c, rfl, by have := hS.own.base; omega, hS.own.has, unbox hS.bel (by omega), hS.own.room⟩
    have hlt' : (k : Int) < (p : Int) := by omega
    have hgsz := hS.own.lt
    have hgb0 := hS.own.base
    have hfk := run3_fair (p := p) HF.out k
    have hpl := run3_place HF.out hlt
    have hnn := (run3_gone HF.out k (by omega)).2 hlt
    have HK : Hid (Fair (run3 p B k).1 ∧ (pick p (run3 p B k).1 (run3 p B k).2.1 p).1 < p ∧ noneB (run3 p B k).2.1 p = false) := ⟨hfk, hpl, hnn⟩
    clear hfk hpl hnn
    go_wp2
    go_loopw [6, 7, 8] (fun x y z wr2 => ∃ j : Nat, j ≤ p ∧ x = .int .i64 (best p (run3 p B k).1 (run3 p B k).2.1 j) ∧ y = .int .i64 (few p (run3 p B k).1 (run3 p B k).2.1 j) ∧ z = .int .i64 j ∧ OS (w.heap.size + 1) (w.alloc (.cells #[.int .i64 (p : Int), .slice ao n cap] 26)) p B (w.heap.size + 1 + 1) w1.heap.size g c k wr2) (fun _ _ z _ => p - (intOf z).toNat)
    case atStart => exact ⟨0, Nat.zero_le _, rfl, rfl, rfl, hS⟩
    case round =>
      clear hS x0 x1 xs2
      obtain ⟨j, hj, rfl, rfl, rfl, hS⟩ := hrel
      obtain ⟨x0, x1, xs2⟩ := box2 hS.bel
      by_cases hltj : j < p
      · have hltj' : (j : Int) < (p : Int) := by omega
        have d0 := VHas.cell hS.gn hltj
        have hfw := few_in (p := p) (B := (run3 p B k).1) (gone := (run3 p B k).2.1) j
        cases hgj : (run3 p B k).2.1 j
        · rw [hgj] at d0
          have hcl := cntB_le ((run3 p B k).1 j) p
          have hnb := l3Neighbours_any (w.heap.size + 1 + 1) p j _ hp hltj wr hS.sq
          by_cases hc1 : best p (run3 p B k).1 (run3 p B k).2.1 j < 0
          · have hbt := best_take (p := p) HK.out.1 hltj hgj (Or.inl hc1)
            have HBT : Hid (best p (run3 p B k).1 (run3 p B k).2.1 (j + 1) = (j : Int) ∧ few p (run3 p B k).1 (run3 p B k).2.1 (j + 1) = (cntB ((run3 p B k).1 j) p : Int)) := hbt
            clear hbt
            go_wp2_with (go_at_call 94; refine hnb.mono ?_; rintro e w2 ⟨g2, c2, rfl, _, _, hb2⟩)
            go_roundw
            case rel => exact ⟨j + 1, by omega, by rw [HBT.out.1], by rw [HBT.out.2], by go_num, hS.next (by simp) hb2⟩
            case measure => simp [intOf]; omega
          · by_cases hc2 : (cntB ((run3 p B k).1 j) p : Int) < few p (run3 p B k).1 (run3 p B k).2.1 j
            · have hbt := best_take (p := p) HK.out.1 hltj hgj (Or.inr hc2)
              have HBT : Hid (best p (run3 p B k).1 (run3 p B k).2.1 (j + 1) = (j : Int) ∧ few p (run3 p B k).1 (run3 p B k).2.1 (j + 1) = (cntB ((run3 p B k).1 j) p : Int)) := hbt
              clear hbt
              go_wp2_with (go_at_call 94; refine hnb.mono ?_; rintro e w2 ⟨g2, c2, rfl, _, _, hb2⟩)
              go_roundw
              case rel => exact ⟨j + 1, by omega, by rw [HBT.out.1], by rw [HBT.out.2], by go_num, hS.next (by simp) hb2⟩
              case measure => simp [intOf]; omega
            · have hbt := best_stay (p := p) hgj hc1 hc2
              have HBT : Hid (best p (run3 p B k).1 (run3 p B k).2.1 (j + 1) = best p (run3 p B k).1 (run3 p B k).2.1 j ∧ few p (run3 p B k).1 (run3 p B k).2.1 (j + 1) = few p (run3 p B k).1 (run3 p B k).2.1 j) := hbt
              clear hbt
              go_wp2_with (go_at_call 94; refine hnb.mono ?_; rintro e w2 ⟨g2, c2, rfl, _, _, hb2⟩)
              go_roundw
              case rel => exact ⟨j + 1, by omega, by rw [HBT.out.1], by rw [HBT.out.2], by go_num, hS.next (by simp) hb2⟩
              case measure => simp [intOf]; omega
        · rw [hgj] at d0
          have hbt := best_gone (p := p) (B := (run3 p B k).1) hgj
          have HBT : Hid (best p (run3 p B k).1 (run3 p B k).2.1 (j + 1) = best p (run3 p B k).1 (run3 p B k).2.1 j ∧ few p (run3 p B k).1 (run3 p B k).2.1 (j + 1) = few p (run3 p B k).1 (run3 p B k).2.1 j) := hbt
          clear hbt
          go_wp2
          go_roundw
          case rel => exact ⟨j + 1, by omega, by rw [HBT.out.1], by rw [HBT.out.2], by go_num, hS⟩
          case measure => simp [intOf]; omega
      have hjp : j = p := by omega
      subst hjp
      obtain ⟨hfk, hpl, hnn⟩ := HK.out
      have hbe : best j (run3 j B k).1 (run3 j B k).2.1 j = ((pick j (run3 j B k).1 (run3 j B k).2.1 j).1 : Int) := by simp [best, hnn]
      rw [hbe]
      have e1 := run3_sq j B k
      have e2 := run3_gn j B k
      have e3 := run3_ls j B k
      clear hbe HK hnn
      generalize (pick j (run3 j B k).1 (run3 j B k).2.1 j).1 = a at hpl e1 e2 e3 ⊢
      have hpl' : (a : Int) < (j : Int) := by omega
      have d0 := VHas.cell hS.gn hpl
      have z0 := VHas.frozen hS.gn a
      have hsl := VHas.lt hS.sq
      have hgl := VHas.lt hS.gn
      have E1 : Hid ((run3 j B (k + 1)).1 = tk (run3 j B k).1 a) := e1
      have E2 : Hid ((run3 j B (k + 1)).2.1 = goneU (run3 j B k).2.1 a) := e2
      have E3 : Hid ((run3 j B (k + 1)).2.2 = fun i => if i = k then (a : Int) else (run3 j B k).2.2 i) := e3
      clear e1 e2 e3
      have hsg : (w.heap.size + 1 + 1) ≠ w1.heap.size := by omega
      have hg1' : gr_setCell wr w1.heap.size a (.bool true) = gr_setCell wr w1.heap.size a (.bool true) := rfl
      have G1 := BHas.put hS.gn a true
      have G2 := VHas.other (i := a) hS.sq hsg (.bool true)
      have G3 := hS.own.grown (gr_setCell wr w1.heap.size a (.bool true)) hg2
      have G4 := hS.bel.setCell (p := ⟨w1.heap.size, a, none⟩) (by simp; omega) (.bool true)
      have x0' : (wr.setCell ⟨w1.heap.size, a, none⟩ (.bool true)).cell? ⟨w.heap.size, 0, none⟩ = some (.int .i64 (j : Int)) := (box2 G4).1
      clear hg1'
      go_wp2_with fail
      refine (l3Take_any _ j a _ hp hpl hfk _ G2).mono ?_
      rintro e w3 ⟨rfl, hq3, hg3⟩
      have hs3 := hg3.size
      rw [show (wr.setCell ⟨w1.heap.size, a, none⟩ (.bool true)).heap.size = wr.heap.size by simp [World.setCell]] at hs3
      have K1 := VHas.grown G1 hg3 (by simp; omega)
      have K3 := G3.grown hg3 hg1
      have K4 := G4.trans (gr_below hg3 (by omega) (by have := G4.size; simpa using this))
      obtain ⟨y0, y1, ys⟩ := box2 K4
      have hgl3 := K3.lt
      clear G1 G2 G3 G4 hg3 x0' d0 z0 x0 x1 hS
      go_wp2_with (at_builtin; refine wpList_append_int rfl _ _ rfl (w.heap.size + 1) g c k _ rfl (by exact K3.below ((Below.refl _ _).alloc (Nat.le_refl _) _) hgl3) ⟨w3.heap.size, 0, none⟩ 1 (a : Int) rfl (by simp [go_sem]) (by omega) (by simp; omega) ?_; intro g' c' w4 hown4 hgrow4 hat4)
      have hal := (Below.refl w3.heap.size w3).alloc (Nat.le_refl _) (.cells #[.int .i64 (a : Int)] 2)
      have R : OS (w.heap.size + 1) (w.alloc (.cells #[.int .i64 (j : Int), .slice ao n cap] 26)) j B (w.heap.size + 1 + 1) w1.heap.size g' c' (k + 1) w4 := by
        refine ⟨?_, ?_, ?_, (K4.trans (hal.mono (by omega))).grown hgrow4 (by simp; omega) (fun q hq => by cases hq; omega)⟩
        · rw [E3.out]
          exact hown4 _ (fun q hq => if_neg (by omega)) (if_pos rfl)
        · rw [E1.out]
          exact VHas.grown (VHas.next hq3 hal) hgrow4 (by simp; omega)
        · rw [E2.out]
          exact (VHas.grown (VHas.next K1 hal) hgrow4 (by simp; omega)).congr (fun q _ => by unfold goneU; rfl)
      have hne : g' ≠ w.heap.size + 1 + 1 ∧ g' ≠ w1.heap.size := by
        rcases hat4 with e | e
        · rw [e]; exact ⟨hg1, hg2⟩
        · simp at e; omega
      clear K1 K3 K4 hq3 hown4 hgrow4 hat4 y0 y1
      go_wp2
      go_roundw
      case rel => exact ⟨k + 1, g', c', by omega, rfl, R, hne.1, hne.2⟩
      case measure => simp [slen]; omega

end Go.Proofs.Ytdgnlpafmkhdjaa

/-
  Order, the document's, at every map of at most 2^20 arcs.
-/
set_option linter.unusedVariables false
set_option linter.unusedSimpArgs false
namespace Go.Proofs.Ytdgnlpafmkhdjaa
open Go.RowKit
attribute [local go_sem ↓] Go.wp_at_zero Go.wp_at_succ

set_option maxHeartbeats 1000000 in
theorem specOrder_cap (p : Int) (ao : Option Addr) (n cap : Nat) (F T G : Nat → Int) (hn : n ≤ 1048576) (w : World) (hr : Row w ao n F T G) :
    Calls Try.prog 27 #[.agg #[.int .i64 p, .slice ao n cap]] w fun e w' => Ans w w' e (lenO p n F T G) (listO p n F T) ∧ ∀ ao m c, e = .returned (.slice ao m c) → m ≤ c := by
  rcases Bool.eq_false_or_eq_true (graphB p n F T G) with h | h
  rotate_left
  · have hL : lenO p n F T G = 0 := by simp [lenO, h]
    rw [hL]
    go_enter Try.func27, Try.ntmps27
    go_wp2_with (go_at_call 48; refine (specGraphOk_any p ao n cap F T G hn _ (hr.alloc _)).mono ?_; rintro e w1 ⟨rfl, hb1⟩)
    go_ret
    exact ⟨⟨_, _, rfl, fun h => by omega, unbox (hb1.alloc (by have := hb1.size; omega) _) (by simp)⟩, fun _ _ _ e => by cases e; exact Nat.le_refl _⟩
  have hpp : 1 ≤ p ∧ p ≤ 24 := by simpa [inB] using graphB_p h
  obtain ⟨pn, rfl⟩ : ∃ pn : Nat, p = (pn : Int) := ⟨p.toNat, by omega⟩
  have hL : lenO pn n F T G = pn := by simp [lenO, h]
  rw [hL]
  obtain ⟨⟨hp1, hp2⟩, hn1, hF, hT, hFT⟩ := ok_arcs h
  have HA : Hid ((∀ k, k < n → 0 ≤ F k ∧ F k < (pn : Int)) ∧ (∀ k, k < n → 0 ≤ T k ∧ T k < (pn : Int)) ∧ ∀ k, k < n → F k ≠ T k) := ⟨hF, hT, hFT⟩
  clear hL hF hT hFT hpp
  go_enter Try.func27, Try.ntmps27
  go_wp2_with (first | (go_at_call 48; refine (specGraphOk_any pn ao n cap F T G hn _ (hr.alloc _)).mono ?_; rintro e w1 ⟨rfl, hb1⟩; obtain ⟨hc, hf⟩ := bcell hb1) | (go_at_call 70; refine (l3Order_any pn ao n cap F T G hp1 hp2 hn1 HA.out.1 HA.out.2.1 HA.out.2.2 _ ((hr.alloc _).below hb1 (Nat.le_refl _))).mono ?_; rintro e w2 ⟨g, c, rfl, hg, hI, hb2, hrm⟩))
  go_ret
  exact ⟨⟨_, _, rfl, fun _ => ⟨g, rfl, by have := hb1.size; simp at this; omega, hI⟩, unbox (below_next hb1 (Nat.le_refl _) hb2) (by simp)⟩, fun _ _ _ e => by cases e; exact hrm⟩
theorem specOrder_any (p : Int) (ao : Option Addr) (n cap : Nat) (F T G : Nat → Int) (hn : n ≤ 1048576) (w : World) (hr : Row w ao n F T G) :
    Calls Try.prog 27 #[.agg #[.int .i64 p, .slice ao n cap]] w fun e w' => Ans w w' e (lenO p n F T G) (listO p n F T) := (specOrder_cap p ao n cap F T G hn w hr).mono (fun _ _ h => h.1)

end Go.Proofs.Ytdgnlpafmkhdjaa

/-
  The document's draws for chapters 3 and 4: a map; a map and an order of its places, mostly. What is drawn is told by existence alone.
-/
set_option linter.unusedVariables false
set_option linter.unusedSimpArgs false
namespace Go.Proofs.Ytdgnlpafmkhdjaa
open Go.RowKit Go.Maps
attribute [local go_sem ↓] Go.wp_at_zero Go.wp_at_succ

/-- What stands while an order is drawn: the cursor, a list of the call's own; nothing else that lay has turned. -/
structure OW (w : World) (base c : Nat) (ao : Option Addr) (n cap : Nat) (m og : Nat) (W : World) : Prop where
  cur : CurAt W base c ao n cap
  own : 0 < m → ∃ f, IHas W og m f
  gr : w.grownBy W (some c)
section
variable {w W W' : World} {base c : Nat} {ao : Option Addr} {n cap m og : Nat}
theorem OW.step (h : OW w base c ao n cap m og W) (hg0 : w.heap.size ≤ og) (hc : c < w.heap.size) (hC : CurAt W' base c ao n cap) (hg : W.grownBy W' (some c)) : OW w base c ao n cap m og W' :=
  ⟨hC, fun hm => by obtain ⟨f, hf⟩ := h.own hm; exact ⟨f, hf.grown hg (by simp; omega)⟩, h.gr.trans hg⟩
theorem OW.next (h : OW w base c ao n cap m og W) (hb : Below W.heap.size W W') : OW w base c ao n cap m og W' :=
  ⟨h.cur.next hb, fun hm => by obtain ⟨f, hf⟩ := h.own hm; exact ⟨f, hf.below hb hf.lt⟩, h.gr.trans ⟨hb.os, hb.tape, hb.output, hb.size, fun k hk _ => hb.block k hk⟩⟩
theorem OW.put (h : OW w base c ao n cap m og W) (hg0 : w.heap.size ≤ og) (hc : c < w.heap.size) (j : Nat) (v : Int) : OW w base c ao n cap m og (W.setCell ⟨og, j, none⟩ (.int .i64 v)) := by
  have hs := gr_setCell W og j (.int .i64 v)
  have hge := h.cur.ge
  exact ⟨h.cur.grown hs (by omega) (by omega), fun hm => by obtain ⟨f, hf⟩ := h.own hm; exact ⟨_, hf.set j v⟩, gr_far h.gr hs (fun g e => by cases e; exact Nat.le_refl _) hg0⟩
theorem OW.cell (h : OW w base c ao n cap m og W) {j : Nat} (hj : j < m) : (∃ v, W.cell? ⟨og, j, none⟩ = some (.int .i64 v)) ∧ W.frozen? ⟨og, j, none⟩ = false := by
  obtain ⟨f, hf⟩ := h.own (by omega)
  exact ⟨⟨_, hf.cell hj⟩, hf.frozen j⟩
end
theorem Row.otherB {w w' : World} {ao : Option Addr} {n : Nat} {F T G : Nat → Int} {row : Option Nat} (h : Row w ao n F T G) (hg : w.grownBy w' row) (hB : ∀ a, ao = some a → 0 < n → some a.block ≠ row) : Row w' ao n F T G := fun k hk => by
  obtain ⟨b', o, e, c0, c1, c2⟩ := h k hk
  have hne := hB _ e (by omega)
  exact ⟨b', o, e, hg.cell c0 hne, hg.cell c1 hne, hg.cell c2 hne⟩
theorem IRow.other {w w' : World} {ao : Option Addr} {n : Nat} {f : Nat → Int} {row : Option Nat} (h : IRow w ao n f) (hg : w.grownBy w' row) (hB : ∀ a, ao = some a → 0 < n → some a.block ≠ row) : IRow w' ao n f := fun k hk => by
  obtain ⟨b', o, e, c0⟩ := h k hk
  have hne := hB _ e (by omega)
  exact ⟨b', o, e, hg.cell c0 hne⟩
theorem irowE {W : World} {aoO : Option Addr} {m og : Nat} (h1 : 0 < m → aoO = some ⟨og, 0, none⟩) (h2 : 0 < m → ∃ f, IHas W og m f) : IRow W aoO m (fun j => match W.cell? ⟨og, j, none⟩ with | some (.int _ v) => v | _ => 0) := fun k hk => by
  obtain ⟨f, hf⟩ := h2 (by omega)
  refine ⟨og, 0, h1 (by omega), ?_⟩
  have := hf.cell hk
  simp [this]
set_option maxRecDepth 100000 in
set_option maxHeartbeats 8000000 in
theorem l3DrawOrder_any (base c : Nat) (ao : Option Addr) (n cap : Nat) (p : Int) (go : Option Addr) (k gc : Nat) (F T G : Nat → Int) (hk : k ≤ 200) (w : World) (hC : CurAt w base c ao n cap) (hr : Row w go k F T G) :
    Calls Try.prog 71 #[.pointer (some ⟨c, 0, none⟩), .agg #[.int .i64 p, .slice go k gc]] w fun e w' => ∃ (po : Option Addr) (m pc : Nat) (P : Nat → Int), e = .returned (.slice po m pc) ∧ m ≤ 24 ∧ (∀ a, po = some a → 0 < m → w.heap.size ≤ a.block) ∧ IRow w' po m P ∧ CurAt w' base c ao n cap ∧ w.grownBy w' (some c) := by
  have hcl := hC.lt
  have hal := (Below.refl w.heap.size w).alloc (Nat.le_refl _) (.cells #[.int .i64 p, .slice go k gc] 26)
  have hk' : k ≤ 1048576 := by omega
  obtain ⟨m, hm⟩ : ∃ m, lenO p k F T G = m := ⟨_, rfl⟩
  obtain ⟨D, hD⟩ : ∃ D, listO p k F T = D := ⟨_, rfl⟩
  have hm24 : m ≤ 24 := by rw [← hm]; exact lenO_le p k F T G
  have hso := fun W hr' => specOrder_cap p go k gc F T G hk' W hr'
  rw [hm, hD] at hso
  have HSO : Hid (∀ W, Row W go k F T G → Calls Try.prog 27 #[.agg #[.int .i64 p, .slice go k gc]] W fun e w' => Ans W w' e m D ∧ ∀ ao m c, e = .returned (.slice ao m c) → m ≤ c) := hso
  clear hso hm hD
  go_enter Try.func71, Try.ntmps71
  go_wp2_with fail
  refine (HSO.out _ (hr.alloc _)).mono ?_
  rintro e w1 ⟨⟨aoO, capO, rfl, hO, hb1⟩, hcp⟩
  have hcap : m ≤ capO := hcp _ _ _ rfl
  clear hcp
  obtain ⟨og, hog1, hog2, hog3⟩ : ∃ og, (0 < m → aoO = some ⟨og, 0, none⟩) ∧ w.heap.size ≤ og ∧ (0 < m → ∃ f, IHas w1 og m f) := by
    by_cases h0 : 0 < m
    · obtain ⟨g, e, hge, hI⟩ := hO h0
      simp only [World.size_alloc] at hge
      exact ⟨g, fun _ => e, by omega, fun _ => ⟨_, hI⟩⟩
    · exact ⟨w.heap.size, fun h => absurd h h0, Nat.le_refl _, fun h => absurd h h0⟩
  have hW1 : OW w base c ao n cap m og w1 := ⟨(hC.next hal).next hb1, hog3, ⟨(below_next hal (Nat.le_refl _) hb1).os, (below_next hal (Nat.le_refl _) hb1).tape, (below_next hal (Nat.le_refl _) hb1).output, (below_next hal (Nat.le_refl _) hb1).size, fun k hk _ => (below_next hal (Nat.le_refl _) hb1).block k hk⟩⟩
  clear hO hb1 hog3 hal hr
  go_wp2_with fail
  refine (l1Below_any _ c ao n cap 5 (by omega) (by omega) _ hW1.cur).mono ?_
  rintro e w2 ⟨y, rfl, hy, hC2, hg2⟩
  have hW2 := hW1.step hog2 hcl hC2 hg2
  clear hW1 hC2 hg2
  go_wp2_with fail
  go_loopw [6] (fun x wr => ∃ j : Nat, j ≤ 5 ∧ x = .int .i64 j ∧ OW w base c ao n cap m og wr) (fun x _ => (intOf x).toNat)
  case atStart => exact ⟨y, by omega, rfl, hW2⟩
  case round =>
    clear hW2
    obtain ⟨j, hj, rfl, hW⟩ := hrel
    by_cases hlt : 0 < j ∧ 1 < m
    rotate_left
    · have hwo : Hid (OW w base c ao n cap m og wr) := hW
      go_wp2_with fail
      all_goals
        refine (l1Once_any _ c ao n cap 14 (by omega) (by omega) _ hwo.out.cur).mono ?_
        rintro e w3 ⟨bx, rfl, hC3, hg3⟩
        have hW3 := hwo.out.step hog2 hcl hC3 hg3
        clear hC3 hg3
        cases bx
        · go_wp2
          go_ret
          exact ⟨aoO, m, capO, _, rfl, hm24, fun a e h => by rw [hog1 h] at e; cases e; exact hog2, irowE hog1 hW3.own, hW3.cur, hW3.gr⟩
        · by_cases hm0 : 0 < m
          rotate_left
          · have hm0' : ¬ 0 < (m : Int) := by omega
            go_wp2
            go_ret
            exact ⟨aoO, m, capO, _, rfl, hm24, fun a e h => by rw [hog1 h] at e; cases e; exact hog2, irowE hog1 hW3.own, hW3.cur, hW3.gr⟩
          have hm0' : 0 < (m : Int) := by omega
          go_wp2_with fail
          refine (l1Below_any _ c ao n cap 2 (by omega) (by omega) _ hW3.cur).mono ?_
          rintro e w4 ⟨z, rfl, hz, hC4, hg4⟩
          have hW4 := hW3.step hog2 hcl hC4 hg4
          clear hC4 hg4 hW3
          have hz2 : z = 0 ∨ z = 1 := by omega
          rcases hz2 with rfl | rfl
          · have hq1 := hog1 hm0
            subst hq1
            go_wp2_with fail
            refine (l1Below_any _ c ao n cap m (by omega) (by omega) _ hW4.cur).mono ?_
            rintro e w5 ⟨i, rfl, hi, hC5, hg5⟩
            have hW5 := hW4.step hog2 hcl hC5 hg5
            clear hC5 hg5 hW4
            have hal5 := (Below.refl w5.heap.size w5).alloc (Nat.le_refl _) (.cells #[.int .i64 (-1), .int .i64 0, .int .i64 24, .int .i64 3] 2)
            have hW6 := hW5.next hal5
            have hcl5 := hW5.cur.lt
            clear hW5
            go_wp2_with fail
            refine (l1Below_any _ c ao n cap 4 (by omega) (by omega) _ hW6.cur).mono ?_
            rintro e w7 ⟨x, rfl, hx, hC7, hg7⟩
            have hW7 := hW6.step hog2 hcl hC7 hg7
            obtain ⟨v, hv⟩ := lit4 ((hg7.block w5.heap.size (by simp) (by simp <;> omega)).trans (Go.Deep.blk_alloc_new _ _)) (show x < 4 by omega)
            have hx4 : (x : Int) < 4 := by omega
            have him : i < m := by omega
            obtain ⟨⟨v1, c1⟩, z1⟩ := hW7.cell him
            have hW8 := hW7.put hog2 hcl i v
            clear hC7 hg7 hW6 hal5
            have HW8 : Hid (OW w base c ao n cap m og (w7.setCell ⟨og, i, none⟩ (.int .i64 v))) := hW8
            clear hW8 hW7
            go_wp2
            go_ret
            exact ⟨_, m, capO, _, rfl, hm24, fun a e h => by cases e; exact hog2, irowE (fun _ => rfl) HW8.out.own, HW8.out.cur, HW8.out.gr⟩
          · obtain rfl := hog1 hm0
            by_cases hc1 : capO = 1
            · subst hc1
              have hm1 : m = 1 := by omega
              subst hm1
              go_wp2
              go_ret
              exact ⟨_, _, _, fun _ => 0, rfl, by omega, fun a e h => by omega, fun q hq => by omega, hW4.cur, hW4.gr⟩
            · have hc2 : 1 < capO := by omega
              go_wp2
              go_ret
              obtain ⟨f, hf⟩ := hW4.own hm0
              exact ⟨_, _, _, fun q => f (q + 1), rfl, by omega, fun a e h => by cases e; exact hog2, fun q hq => ⟨og, 1, rfl, by rw [Nat.add_comm]; exact hf.cell (by omega)⟩, hW4.cur, hW4.gr⟩
    obtain ⟨hj0, hm1⟩ := hlt
    have hj0' : 0 < (j : Int) := by omega
    have hm1' : 1 < (m : Int) := by omega
    obtain rfl := hog1 (by omega)
    go_wp2_with fail
    refine (l1Below_any _ c ao n cap m (by omega) (by omega) _ hW.cur).mono ?_
    rintro e w3 ⟨i, rfl, hi, hC3, hg3⟩
    have hW3 := hW.step hog2 hcl hC3 hg3
    clear hC3 hg3 hW
    go_wp2_with fail
    refine (l1Below_any _ c ao n cap m (by omega) (by omega) _ hW3.cur).mono ?_
    rintro e w4 ⟨k', rfl, hk2, hC4, hg4⟩
    have hW4 := hW3.step hog2 hcl hC4 hg4
    clear hC4 hg4 hW3
    have him : i < m := by omega
    have hkm : k' < m := by omega
    obtain ⟨⟨v1, c1⟩, z1⟩ := hW4.cell him
    obtain ⟨⟨v2, c2⟩, z2⟩ := hW4.cell hkm
    have HP : Hid (OW w base c ao n cap m og ((w4.setCell ⟨og, i, none⟩ (.int .i64 v2)).setCell ⟨og, k', none⟩ (.int .i64 v1))) := (hW4.put hog2 hcl i v2).put hog2 hcl k' v1
    clear hW4
    by_cases hik : i = k'
    · subst hik
      rw [c1] at c2
      simp at c2
      subst c2
      go_wp2
      go_roundw
      case rel => exact ⟨j - 1, by omega, by rw [show ((j - 1 : Nat) : Int) = (j : Int) - 1 by omega], HP.out⟩
      case measure => simp [intOf]; omega
    · have hik2 : ¬ k' = i := fun e => hik e.symm
      go_wp2
      go_roundw
      case rel => exact ⟨j - 1, by omega, by rw [show ((j - 1 : Nat) : Int) = (j : Int) - 1 by omega], HP.out⟩
      case measure => simp [intOf]; omega
set_option maxRecDepth 100000 in
set_option maxHeartbeats 4000000 in
theorem drawOrderOk_any (ao : Option Addr) (n cap : Nat) (hn : n ≤ 4096) (w : World) (hr : ByRow w w.heap.size ao n) :
    Calls Try.prog 28 #[.slice ao n cap] w fun e w' => ∃ (p : Int) (go : Option Addr) (k gc : Nat) (po : Option Addr) (m pc : Nat) (P : Nat → Int), e = .returned (.tuple #[.agg #[.int .i64 p, .slice go k gc], .slice po m pc]) ∧ k ≤ 200 ∧ m ≤ 24 ∧ Drawn w w' go k ∧ (IRow w' po m P ∧ ∀ a, po = some a → 0 < m → w.heap.size < a.block) ∧ Below w.heap.size w w' := by
  have hal0 := (Below.refl w.heap.size w).alloc (Nat.le_refl _) (.cells #[.int .i64 0, .slice none 0 0] 26)
  have hr0 : ByRow (w.alloc (.cells #[.int .i64 0, .slice none 0 0] 26)) (w.alloc (.cells #[.int .i64 0, .slice none 0 0] 26)).heap.size ao n := fun k hk => by
    obtain ⟨b, o, v, e, hb, hc⟩ := (hr.below hal0 (Nat.le_refl _)) k hk
    exact ⟨b, o, v, e, by simp; omega, hc⟩
  go_enter Try.func28, Try.ntmps28
  go_wp2_with fail
  refine (l1New_any ao n cap hn _ hr0).mono ?_
  rintro e w1 ⟨c, rfl, hC1, hb1⟩
  have hcg := hC1.ge
  simp only [World.size_alloc] at hcg hC1 hb1
  have hcl1 := hC1.lt
  have hrb1 := (gr_new w 0 (.slice none 0 0)).below hb1 (by omega)
  have hbel1 : Below w.heap.size w w1 := hal0.trans (hb1.mono (by omega))
  go_wp2_with fail
  refine (l1DrawAny_any _ c ao n cap _ hC1).mono ?_
  rintro e w3 ⟨p, go, k, gc, rfl, hk, hO3, hC3, hg3⟩
  have hs3 := hg3.size
  have hD4 : DW w (w.heap.size + 1) c ao n cap w.heap.size w3.heap.size w1.heap.size p go k gc (w3.alloc (.cells #[.int .i64 p, .slice go k gc] 26)) :=
    DW.next (W := w3.alloc (.cells #[.int .i64 p, .slice go k gc] 26)) ⟨hC3.next ((Below.refl _ _).alloc (Nat.le_refl _) _), (hrb1.grown hg3 (by simp; omega)).alloc _, gr_new w3 _ _, hO3.next ((Below.refl _ _).alloc (Nat.le_refl _) _), (hbel1.trans (gr_below hg3 (by omega) hbel1.size)).alloc (Nat.le_trans hbel1.size hs3) _⟩ (Below.refl _ _)
  have hcc : (w.heap.size < c ∧ c < w1.heap.size ∧ c < w3.heap.size) ∧ w.heap.size ≤ c := by omega
  have hcc2 : (w.heap.size < c ∧ c < w1.heap.size ∧ c < w3.heap.size) ∧ w.heap.size ≤ w.heap.size := by omega
  clear hC3 hg3 hO3 hbel1 hrb1 hal0 hr0 hC1 hb1
  have b0 : (w3.alloc (.cells #[.int .i64 p, .slice go k gc] 26)).cell? ⟨w3.heap.size, 0, none⟩ = some (.int .i64 p) := hD4.box.cell (j := 0) (by omega)
  have b1 : (w3.alloc (.cells #[.int .i64 p, .slice go k gc] 26)).cell? ⟨w3.heap.size, 1, none⟩ = some (.slice go k gc) := hD4.box.cell (j := 1) (by omega)
  have hDd := hD4.next (Below.refl _ (w3.alloc (.cells #[.int .i64 p, .slice go k gc] 26))).drew
  obtain ⟨F, T, G, hrow, _⟩ := hDd.own.row
  have hsd : w.heap.size < (w3.alloc (.cells #[.int .i64 p, .slice go k gc] 26)).drew.heap.size := by show w.heap.size < (w3.alloc _).heap.size; simp; omega
  clear hD4
  go_wp2
  go_region_law (go_simp; go_at_call 71; refine (l3DrawOrder_any _ c ao n cap p go k gc F T G hk _ hDd.cur hrow).mono ?_; rintro e w6 ⟨po, m, pc, P, rfl, hm, hpb, hP, hC6, hg6⟩; have hDs := hDd.step hcc hC6 hg6; have b60 : w6.cell? ⟨w3.heap.size, 0, none⟩ = some (.int .i64 p) := hDs.box.cell (j := 0) (by omega); have b61 : w6.cell? ⟨w3.heap.size, 1, none⟩ = some (.slice go k gc) := hDs.box.cell (j := 1) (by omega); have r0 : w6.cell? ⟨w.heap.size, 0, none⟩ = some (.int .i64 0) := hDs.res.cell (j := 0) (by omega); have r1 : w6.cell? ⟨w.heap.size, 1, none⟩ = some (.slice none 0 0) := hDs.res.cell (j := 1) (by omega); have y0 := hDs.res.frozen 0; have y1 := hDs.res.frozen 1)
  all_goals
    obtain ⟨q0, q1, q2⟩ := res_cells hDs.res p (.slice go k gc)
    obtain ⟨o1, o2⟩ := hDs.out hcc2 (.int .i64 p) (.slice go k gc)
    have hP2 : IRow ((w6.setCell ⟨w.heap.size, 0, none⟩ (.int .i64 p)).setCell ⟨w.heap.size, 1, none⟩ (.slice go k gc)) po m P := (hP.other (gr_setCell _ _ 0 _) (fun a e h => by have := hpb a e h; simp; omega)).other (gr_setCell _ _ 1 _) (fun a e h => by have := hpb a e h; simp; omega)
    go_wp2
    exact bodyPost_ret (v := .tuple #[.agg #[.int .i64 p, .slice go k gc], .slice po m pc]) (by simp [results, Try.results28, go_sem, q0, q1, q2]) rfl ⟨p, go, k, gc, po, m, pc, P, rfl, hk, hm, o1, ⟨hP2, fun a e h => by have := hpb a e h; omega⟩, o2⟩

end Go.Proofs.Ytdgnlpafmkhdjaa
