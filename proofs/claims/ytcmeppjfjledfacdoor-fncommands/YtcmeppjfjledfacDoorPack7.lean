/-
  Helpers, merged: DrawCn, NumS, ShowSa, ShowT, DrawRc, LikeA, LikeC, Ans, FnBig.
-/
import Derived.Test.YtcmeppjfjledfacDoorPack6
import Derived.Test.YtcmeppjfjledfacDoorPack1
import Derived.Laws.BytesArg
import Derived.Test.YtcmeppjfjledfacDoorPack4
import Derived.Test.YtcmeppjfjledfacDoorPack5
import Derived.Deep.QuietTactic
import Derived.BigQuiet
/-
  The document's draws of commands: l8DrawAny.
-/
set_option linter.unusedVariables false
set_option linter.unusedSimpArgs false
namespace Go.Proofs.YtcmeppjfjledfacDoor
open Go.RowKit Go.Maps
attribute [local go_sem ↓] Go.wp_at_zero Go.wp_at_succ

/-- The cells of a command in a box. -/
def cmV (K : Int) (go : Option Addr) (k gc : Nat) (a b : Int) : Nat → Value := c4 (.int .i64 K) (.slice go k gc) (.int .i64 a) (.int .i64 b)
/-- What stands while a command is drawn: the cursor, the command's box, its arcs. -/
structure CS (w : World) (base c : Nat) (ao : Option Addr) (n cap : Nat) (rb gb : Nat) (K : Int) (go : Option Addr) (k gc : Nat) (a b : Int) (W : World) : Prop where
  cur : CurAt W base c ao n cap
  box : VHas W gb 26 4 (cmV K go k gc a b)
  own : AOwnE W (rb + 1) go k gc
  ne : ∀ x, go = some x → x.block ≠ gb
  res : VHas W rb 26 4 (cmV 0 none 0 0 0 0)
  gr : w.grownBy W (some c)
theorem CS.step {w : World} {base c : Nat} {ao : Option Addr} {n cap rb gb : Nat} {K : Int} {go : Option Addr} {k gc : Nat} {a b : Int} {W W' : World} (h : CS w base c ao n cap rb gb K go k gc a b W) (hc : c < rb ∧ rb < gb) (hC : CurAt W' base c ao n cap) (hg : W.grownBy W' (some c)) : CS w base c ao n cap rb gb K go k gc a b W' :=
  ⟨hC, h.box.grown hg (by simp; omega), h.own.grown hg (by omega), h.ne, h.res.grown hg (by simp; omega), h.gr.trans hg⟩
theorem CS.next {w : World} {base c : Nat} {ao : Option Addr} {n cap rb gb : Nat} {K : Int} {go : Option Addr} {k gc : Nat} {a b : Int} {W W' : World} (h : CS w base c ao n cap rb gb K go k gc a b W) (hb : Below W.heap.size W W') : CS w base c ao n cap rb gb K go k gc a b W' :=
  ⟨h.cur.next hb, h.box.next hb, h.own.next hb, h.ne, h.res.next hb, h.gr.trans (below_grown hb)⟩
theorem CS.row {w : World} {base c : Nat} {ao : Option Addr} {n cap rb gb : Nat} {K : Int} {go : Option Addr} {k gc : Nat} {a b : Int} {W : World} (h : CS w base c ao n cap rb gb K go k gc a b W) {x : Nat} (e : (Value.slice go k gc).ownBlock = some x) : rb + 1 ≤ x ∧ x ≠ gb := by
  obtain ⟨a, ha, rfl⟩ := own_block e
  exact ⟨(h.own.at e).1, h.ne a ha⟩
/-- A block of another number is turned: what is owned stands. -/
theorem AOwnE.set {w : World} {base k gc gb j : Nat} {go : Option Addr} {v : Value} (h : AOwnE w base go k gc) (hne : ∀ x, go = some x → x.block ≠ gb) : AOwnE (w.setCell ⟨gb, j, none⟩ v) base go k gc := by
  obtain ⟨f, hw9, hl, h0 | ⟨g, cap', cur, hv, hb, hh, rest⟩⟩ := h
  · exact ⟨f, hw9, hl, .inl h0⟩
  · have hv' := hv
    simp at hv'
    have hng := hne _ hv'.1
    exact ⟨f, hw9, hl, .inr ⟨g, cap', cur, hv, hb, ((gr_setCell w gb j v).block g (Array.getElem?_eq_some_iff.1 hh).1 (by simp; exact hng)).trans hh, rest⟩⟩
theorem CS.set0 {w : World} {base c : Nat} {ao : Option Addr} {n cap rb gb : Nat} {K : Int} {go : Option Addr} {k gc : Nat} {a b : Int} {W : World} (h : CS w base c ao n cap rb gb K go k gc a b W) (hc : (c < rb ∧ rb < gb) ∧ w.heap.size ≤ rb) (v : Int) : CS w base c ao n cap rb gb v go k gc a b (W.setCell ⟨gb, 0, none⟩ (.int .i64 v)) := by
  have hs := gr_setCell W gb 0 (.int .i64 v)
  have hge := h.cur.ge
  exact ⟨h.cur.grown hs (by omega) (by omega), (h.box.set 0 _).congr (fun j hj => by
    have : j = 0 ∨ j = 1 ∨ j = 2 ∨ j = 3 := by omega
    rcases this with rfl | rfl | rfl | rfl <;> rfl), h.own.set h.ne, h.ne, h.res.grown hs (by simp; omega), gr_far h.gr hs (fun x e => by cases e; exact Nat.le_refl _) (by omega)⟩
theorem CS.set2 {w : World} {base c : Nat} {ao : Option Addr} {n cap rb gb : Nat} {K : Int} {go : Option Addr} {k gc : Nat} {a b : Int} {W : World} (h : CS w base c ao n cap rb gb K go k gc a b W) (hc : (c < rb ∧ rb < gb) ∧ w.heap.size ≤ rb) (v : Int) : CS w base c ao n cap rb gb K go k gc v b (W.setCell ⟨gb, 2, none⟩ (.int .i64 v)) := by
  have hs := gr_setCell W gb 2 (.int .i64 v)
  have hge := h.cur.ge
  exact ⟨h.cur.grown hs (by omega) (by omega), (h.box.set 2 _).congr (fun j hj => by
    have : j = 0 ∨ j = 1 ∨ j = 2 ∨ j = 3 := by omega
    rcases this with rfl | rfl | rfl | rfl <;> rfl), h.own.set h.ne, h.ne, h.res.grown hs (by simp; omega), gr_far h.gr hs (fun x e => by cases e; exact Nat.le_refl _) (by omega)⟩
theorem CS.set3 {w : World} {base c : Nat} {ao : Option Addr} {n cap rb gb : Nat} {K : Int} {go : Option Addr} {k gc : Nat} {a b : Int} {W : World} (h : CS w base c ao n cap rb gb K go k gc a b W) (hc : (c < rb ∧ rb < gb) ∧ w.heap.size ≤ rb) (v : Int) : CS w base c ao n cap rb gb K go k gc a v (W.setCell ⟨gb, 3, none⟩ (.int .i64 v)) := by
  have hs := gr_setCell W gb 3 (.int .i64 v)
  have hge := h.cur.ge
  exact ⟨h.cur.grown hs (by omega) (by omega), (h.box.set 3 _).congr (fun j hj => by
    have : j = 0 ∨ j = 1 ∨ j = 2 ∨ j = 3 := by omega
    rcases this with rfl | rfl | rfl | rfl <;> rfl), h.own.set h.ne, h.ne, h.res.grown hs (by simp; omega), gr_far h.gr hs (fun x e => by cases e; exact Nat.le_refl _) (by omega)⟩
theorem CS.arcs {w : World} {base c : Nat} {ao : Option Addr} {n cap rb gb : Nat} {K : Int} {go : Option Addr} {k gc : Nat} {a b : Int} {W : World} (h : CS w base c ao n cap rb gb K go k gc a b W) (hc : (c < rb ∧ rb < gb) ∧ w.heap.size ≤ rb) {go' : Option Addr} {k' gc' : Nat} (hown : AOwnE W (rb + 1) go' k' gc') (hne : ∀ x, go' = some x → x.block ≠ gb) : CS w base c ao n cap rb gb K go' k' gc' a b (W.setCell ⟨gb, 1, none⟩ (.slice go' k' gc')) := by
  have hs := gr_setCell W gb 1 (.slice go' k' gc')
  have hge := h.cur.ge
  exact ⟨h.cur.grown hs (by omega) (by omega), (h.box.set 1 _).congr (fun j hj => by
    have : j = 0 ∨ j = 1 ∨ j = 2 ∨ j = 3 := by omega
    rcases this with rfl | rfl | rfl | rfl <;> rfl), hown.set hne, hne, h.res.grown hs (by simp; omega), gr_far h.gr hs (fun x e => by cases e; exact Nat.le_refl _) (by omega)⟩
/-- Behind an append to the command's arcs: all but the box's second cell stands. -/
theorem CS.appended {w : World} {base c : Nat} {ao : Option Addr} {n cap rb gb : Nat} {K : Int} {go : Option Addr} {k gc : Nat} {a b : Int} {W W' : World} (h : CS w base c ao n cap rb gb K go k gc a b W) (hc : (c < rb ∧ rb < gb) ∧ w.heap.size ≤ rb) (hg : W.grownBy W' (Value.slice go k gc).ownBlock) {g' k' gc' : Nat} (hown : AOwnE W' (rb + 1) (some ⟨g', 0, none⟩) k' gc') (hat : (Value.slice go k gc).ownBlock = some g' ∨ g' = W.heap.size) :
    CS w base c ao n cap rb gb K (some ⟨g', 0, none⟩) k' gc' a b (W'.setCell ⟨gb, 1, none⟩ (.slice (some ⟨g', 0, none⟩) k' gc')) := by
  have hr : ∀ g, (Value.slice go k gc).ownBlock = some g → rb + 1 ≤ g := fun g e => (h.row e).1
  have hgl := h.box.lt
  have hng : g' ≠ gb := by
    rcases hat with e | e
    · exact (h.row e).2
    · omega
  have hs := gr_setCell W' gb 1 (.slice (some ⟨g', 0, none⟩) k' gc')
  have hbx := h.box.grown hg (fun e => (h.row e.symm).2 rfl)
  have hge := h.cur.ge
  refine ⟨(h.cur.far hg hr (by omega)).grown hs (by omega) (by omega), (hbx.set 1 _).congr (fun j hj => ?_), hown.set (fun x e => by cases e; exact hng), fun x e => by cases e; exact hng, (h.res.grown hg (fun e => by have := hr rb e.symm; omega)).grown hs (by simp; omega), ?_⟩
  · have : j = 0 ∨ j = 1 ∨ j = 2 ∨ j = 3 := by omega
    rcases this with rfl | rfl | rfl | rfl <;> rfl
  · have h1 := gr_far h.gr hg hr (by omega)
    exact gr_far (row := some gb) h1 hs (fun g e => by cases e; exact Nat.le_refl _) (by omega)
/-- What stands behind a command's return. -/
theorem CS.out {w : World} {base c : Nat} {ao : Option Addr} {n cap rb gb : Nat} {K : Int} {go : Option Addr} {k gc : Nat} {a b : Int} {W : World} (h : CS w base c ao n cap rb gb K go k gc a b W) (hc : (c < rb ∧ rb < gb) ∧ w.heap.size ≤ rb) (v0 v1 v2 v3 : Value) :
    AOwnE ((((W.setCell ⟨rb, 0, none⟩ v0).setCell ⟨rb, 1, none⟩ v1).setCell ⟨rb, 2, none⟩ v2).setCell ⟨rb, 3, none⟩ v3) rb go k gc ∧ CurAt ((((W.setCell ⟨rb, 0, none⟩ v0).setCell ⟨rb, 1, none⟩ v1).setCell ⟨rb, 2, none⟩ v2).setCell ⟨rb, 3, none⟩ v3) base c ao n cap ∧ w.grownBy ((((W.setCell ⟨rb, 0, none⟩ v0).setCell ⟨rb, 1, none⟩ v1).setCell ⟨rb, 2, none⟩ v2).setCell ⟨rb, 3, none⟩ v3) (some c) := by
  have h1 := gr_setCell W rb 0 v0
  have h2 := gr_setCell (W.setCell ⟨rb, 0, none⟩ v0) rb 1 v1
  have h3 := gr_setCell ((W.setCell ⟨rb, 0, none⟩ v0).setCell ⟨rb, 1, none⟩ v1) rb 2 v2
  have h4 := gr_setCell (((W.setCell ⟨rb, 0, none⟩ v0).setCell ⟨rb, 1, none⟩ v1).setCell ⟨rb, 2, none⟩ v2) rb 3 v3
  have hge := h.cur.ge
  refine ⟨((((h.own.grown h1 (by omega)).grown h2 (by omega)).grown h3 (by omega)).grown h4 (by omega)).from (by omega), (((h.cur.grown h1 (by omega) (by omega)).grown h2 (by omega) (by omega)).grown h3 (by omega) (by omega)).grown h4 (by omega) (by omega), ?_⟩
  exact gr_far (gr_far (gr_far (gr_far h.gr h1 (fun g e => by cases e; exact Nat.le_refl _) hc.2) h2 (fun g e => by cases e; exact Nat.le_refl _) hc.2) h3 (fun g e => by cases e; exact Nat.le_refl _) hc.2) h4 (fun g e => by cases e; exact Nat.le_refl _) hc.2
theorem litK {W : World} {b : Nat} {t : TypeId} (h : W.heap[b]? = some (.cells #[.int .i64 0, .int .i64 4, .int .i64 1, .int .i64 2, .int .i64 3] t (0, 0))) {y : Nat} (hy : y < 5) : ∃ v, W.cell? ⟨b, y, none⟩ = some (.int .i64 v) ∧ (v = 0 ∨ v = 1 ∨ v = 2 ∨ v = 3 ∨ v = 4) := by
  have : y = 0 ∨ y = 1 ∨ y = 2 ∨ y = 3 ∨ y = 4 := by omega
  rcases this with rfl | rfl | rfl | rfl | rfl
  · exact ⟨0, by simp [World.cell?, h], by omega⟩
  · exact ⟨4, by simp [World.cell?, h], by omega⟩
  · exact ⟨1, by simp [World.cell?, h], by omega⟩
  · exact ⟨2, by simp [World.cell?, h], by omega⟩
  · exact ⟨3, by simp [World.cell?, h], by omega⟩
theorem litP {W : World} {b : Nat} {a0 a1 a2 a3 : Int} {t : TypeId} (h : W.heap[b]? = some (.cells #[.int .i64 a0, .int .i64 a1, .int .i64 a2, .int .i64 a3] t (0, 0))) {y : Nat} (hy : y < 4) : ∃ v, W.cell? ⟨b, y, none⟩ = some (.int .i64 v) := by
  have : y = 0 ∨ y = 1 ∨ y = 2 ∨ y = 3 := by omega
  rcases this with rfl | rfl | rfl | rfl <;> exact ⟨_, by simp [World.cell?, h]; rfl⟩

set_option maxRecDepth 100000 in
set_option maxHeartbeats 4000000 in
theorem l8DrawAny_any (base c : Nat) (ao : Option Addr) (n cap : Nat) (p : Int) (go : Option Addr) (k gc : Nat) (hk : k ≤ 81) (w : World) (hC : CurAt w base c ao n cap) (hO : AOwnE w (c + 1) go k gc) :
    Calls Tryd.prog 40 #[.pointer (some ⟨c, 0, none⟩), .agg #[.int .i64 p, .slice go k gc]] w fun e w' => ∃ (K : Int) (xo : Option Addr) (m xc : Nat) (a b : Int), e = .returned (.agg #[.int .i64 K, .slice xo m xc, .int .i64 a, .int .i64 b]) ∧ (K = 0 ∨ K = 1 ∨ K = 2 ∨ K = 3 ∨ K = 4) ∧ m ≤ 300 ∧ AOwnE w' w.heap.size xo m xc ∧ CurAt w' base c ao n cap ∧ w.grownBy w' (some c) := by
  have hcl := hC.lt
  have hal : Below w.heap.size w ((w.alloc (.cells #[.int .i64 p, .slice go k gc] 64)).alloc (.cells #[.int .i64 0, .slice none 0 0, .int .i64 0, .int .i64 0] 26)) := ((Below.refl _ _).alloc (Nat.le_refl _) _).alloc (by simp) _
  have v0 : VHas ((w.alloc (.cells #[.int .i64 p, .slice go k gc] 64)).alloc (.cells #[.int .i64 0, .slice none 0 0, .int .i64 0, .int .i64 0] 26)) (w.heap.size + 1) 26 4 (cmV 0 none 0 0 0 0) := by
    have := c4_new (w.alloc (.cells #[.int .i64 p, .slice go k gc] 64)) (.int .i64 0) (.slice none 0 0) (.int .i64 0) (.int .i64 0) 26
    rwa [World.size_alloc] at this
  have g0 : ((w.alloc (.cells #[.int .i64 p, .slice go k gc] 64)).alloc (.cells #[.int .i64 0, .slice none 0 0, .int .i64 0, .int .i64 0] 26)).cell? ⟨w.heap.size, 0, none⟩ = some (.int .i64 p) := by simp [go_sem]
  have g1 : ((w.alloc (.cells #[.int .i64 p, .slice go k gc] 64)).alloc (.cells #[.int .i64 0, .slice none 0 0, .int .i64 0, .int .i64 0] 26)).cell? ⟨w.heap.size, 1, none⟩ = some (.slice go k gc) := by simp [go_sem]
  have hgr0 : w.grownBy ((w.alloc (.cells #[.int .i64 p, .slice go k gc] 64)).alloc (.cells #[.int .i64 0, .slice none 0 0, .int .i64 0, .int .i64 0] 26)) (some c) := ⟨hal.os, hal.tape, hal.output, hal.size, fun k hk _ => hal.block k hk⟩
  have hC0 := hC.next hal
  have hO0 := hO.next hal
  have hrc : c < w.heap.size + 1 := by omega
  go_enter Tryd.func40, Tryd.ntmps40
  go_wp2_with fail
  refine (l8Draw_any base c ao n cap p go k gc hk _ hC0 hO0).mono ?_
  rintro e w1 ⟨K, xo, m, xc, a, b, rfl, hK, hm, hO1, hC1, hg1⟩
  have v1 := v0.grown hg1 (by simp; omega)
  have hs1 := v1.lt
  have hD1 : CS w base c ao n cap (w.heap.size + 1) w1.heap.size K xo m xc a b (w1.alloc (.cells #[.int .i64 K, .slice xo m xc, .int .i64 a, .int .i64 b] 26)) :=
    ⟨hC1.next ((Below.refl _ w1).alloc (Nat.le_refl _) _), c4_new w1 _ _ _ _ _, (hO1.next ((Below.refl _ w1).alloc (Nat.le_refl _) _)).from (by simp), (fun x e => by subst e; have := (hO1.at rfl).2; omega), v1.alloc _, (hgr0.trans hg1).trans (World.grownBy_alloc w1 _ _)⟩
  clear hC1 hg1 hO1 v1 v0 hC0 hO0 hgr0 hal g0 g1 hO
  go_wp2_with fail
  refine (l1Once_any base c ao n cap 10 (by omega) (by omega) _ hD1.cur).mono ?_
  rintro e w2 ⟨bx, rfl, hC2, hg2⟩
  have hD2 := hD1.step ⟨hrc, hs1⟩ hC2 hg2
  clear hD1 hC2 hg2
  obtain ⟨gb, hgb⟩ : ∃ gb, w1.heap.size = gb := ⟨_, rfl⟩
  rw [hgb] at hD2 hs1 ⊢
  clear hgb
  cases bx
  · skip
    have r0 : w2.cell? ⟨w.heap.size + 1, 0, none⟩ = some (.int .i64 0) := hD2.res.cell (j := 0) (by omega)
    have r1 : w2.cell? ⟨w.heap.size + 1, 1, none⟩ = some (.slice none 0 0) := hD2.res.cell (j := 1) (by omega)
    have r2 : w2.cell? ⟨w.heap.size + 1, 2, none⟩ = some (.int .i64 0) := hD2.res.cell (j := 2) (by omega)
    have r3 : w2.cell? ⟨w.heap.size + 1, 3, none⟩ = some (.int .i64 0) := hD2.res.cell (j := 3) (by omega)
    have y0 := hD2.res.frozen 0
    have y1 := hD2.res.frozen 1
    have y2 := hD2.res.frozen 2
    have y3 := hD2.res.frozen 3
    have b0 : w2.cell? ⟨gb, 0, none⟩ = some (.int .i64 K) := hD2.box.cell (j := 0) (by omega)
    have b1 : w2.cell? ⟨gb, 1, none⟩ = some (.slice xo m xc) := hD2.box.cell (j := 1) (by omega)
    have b2 : w2.cell? ⟨gb, 2, none⟩ = some (.int .i64 a) := hD2.box.cell (j := 2) (by omega)
    have b3 : w2.cell? ⟨gb, 3, none⟩ = some (.int .i64 b) := hD2.box.cell (j := 3) (by omega)
    obtain ⟨s0, s1, s2, s3⟩ := st4 hD2.res (.int .i64 K) (.slice xo m xc) (.int .i64 a) (.int .i64 b)
    obtain ⟨o1, o2, o3⟩ := hD2.out ⟨⟨hrc, hs1⟩, by omega⟩ (.int .i64 K) (.slice xo m xc) (.int .i64 a) (.int .i64 b)
    go_wp2
    exact bodyPost_ret (v := .agg #[.int .i64 K, .slice xo m xc, .int .i64 a, .int .i64 b]) (by simp [results, Tryd.results40, go_sem, s0, s1, s2, s3]) rfl ⟨_, _, _, _, _, _, rfl, by omega, by omega, o1.from (by omega), o2, o3⟩
  go_wp2_with fail
  refine (l1Below_any base c ao n cap 5 (by omega) (by omega) _ hD2.cur).mono ?_
  rintro e w3 ⟨x, rfl, hx, hC3, hg3⟩
  have hD3 := hD2.step ⟨hrc, hs1⟩ hC3 hg3
  clear hD2 hC3 hg3
  have hgl3 := hD3.box.lt
  have hx5 : x = 0 ∨ x = 1 ∨ x = 2 ∨ x = 3 ∨ x = 4 := by omega
  rcases hx5 with rfl | rfl | rfl | rfl | rfl
  · have hal := (Below.refl w3.heap.size w3).alloc (Nat.le_refl _) (.cells #[.int .i64 0, .int .i64 4, .int .i64 1, .int .i64 2, .int .i64 3] 2)
    go_wp2_with fail
    refine (l1Below_any base c ao n cap 5 (by omega) (by omega) _ (hD3.next hal).cur).mono ?_
    rintro e w4 ⟨y, rfl, hy, hC4, hg4⟩
    have hD4 := (hD3.next hal).step ⟨hrc, hs1⟩ hC4 hg4
    obtain ⟨v, hv, hKv⟩ := litK ((hg4.block w3.heap.size (by simp) (by simp; omega)).trans (Go.Deep.blk_alloc_new _ _)) (show y < 5 by omega)
    clear hC4 hg4 hD3 hal
    have hy' : (y : Int) < 5 := by omega
    have c0 : w4.cell? ⟨gb, 0, none⟩ = some (.int .i64 K) := hD4.box.cell (j := 0) (by omega)
    have z0 := hD4.box.frozen 0
    have hD5 := hD4.set0 ⟨⟨hrc, hs1⟩, by omega⟩ v
    clear hD4
    have r0 : (w4.setCell ⟨gb, 0, none⟩ (.int .i64 v)).cell? ⟨w.heap.size + 1, 0, none⟩ = some (.int .i64 0) := hD5.res.cell (j := 0) (by omega)
    have r1 : (w4.setCell ⟨gb, 0, none⟩ (.int .i64 v)).cell? ⟨w.heap.size + 1, 1, none⟩ = some (.slice none 0 0) := hD5.res.cell (j := 1) (by omega)
    have r2 : (w4.setCell ⟨gb, 0, none⟩ (.int .i64 v)).cell? ⟨w.heap.size + 1, 2, none⟩ = some (.int .i64 0) := hD5.res.cell (j := 2) (by omega)
    have r3 : (w4.setCell ⟨gb, 0, none⟩ (.int .i64 v)).cell? ⟨w.heap.size + 1, 3, none⟩ = some (.int .i64 0) := hD5.res.cell (j := 3) (by omega)
    have y0 := hD5.res.frozen 0
    have y1 := hD5.res.frozen 1
    have y2 := hD5.res.frozen 2
    have y3 := hD5.res.frozen 3
    have b0 : (w4.setCell ⟨gb, 0, none⟩ (.int .i64 v)).cell? ⟨gb, 0, none⟩ = some (.int .i64 v) := hD5.box.cell (j := 0) (by omega)
    have b1 : (w4.setCell ⟨gb, 0, none⟩ (.int .i64 v)).cell? ⟨gb, 1, none⟩ = some (.slice xo m xc) := hD5.box.cell (j := 1) (by omega)
    have b2 : (w4.setCell ⟨gb, 0, none⟩ (.int .i64 v)).cell? ⟨gb, 2, none⟩ = some (.int .i64 a) := hD5.box.cell (j := 2) (by omega)
    have b3 : (w4.setCell ⟨gb, 0, none⟩ (.int .i64 v)).cell? ⟨gb, 3, none⟩ = some (.int .i64 b) := hD5.box.cell (j := 3) (by omega)
    obtain ⟨s0, s1, s2, s3⟩ := st4 hD5.res (.int .i64 v) (.slice xo m xc) (.int .i64 a) (.int .i64 b)
    obtain ⟨o1, o2, o3⟩ := hD5.out ⟨⟨hrc, hs1⟩, by omega⟩ (.int .i64 v) (.slice xo m xc) (.int .i64 a) (.int .i64 b)
    go_wp2
    exact bodyPost_ret (v := .agg #[.int .i64 v, .slice xo m xc, .int .i64 a, .int .i64 b]) (by simp [results, Tryd.results40, go_sem, s0, s1, s2, s3]) rfl ⟨_, _, _, _, _, _, rfl, by omega, by omega, o1.from (by omega), o2, o3⟩
  · have hal := (Below.refl w3.heap.size w3).alloc (Nat.le_refl _) (.cells #[.int .i64 (-1), .int .i64 23, .int .i64 24, .int .i64 1] 2)
    go_wp2_with fail
    refine (l1Below_any base c ao n cap 4 (by omega) (by omega) _ (hD3.next hal).cur).mono ?_
    rintro e w4 ⟨y, rfl, hy, hC4, hg4⟩
    have hD4 := (hD3.next hal).step ⟨hrc, hs1⟩ hC4 hg4
    obtain ⟨v, hv⟩ := litP ((hg4.block w3.heap.size (by simp) (by simp; omega)).trans (Go.Deep.blk_alloc_new _ _)) (show y < 4 by omega)
    clear hC4 hg4 hD3 hal
    have hy' : (y : Int) < 4 := by omega
    have c0 : w4.cell? ⟨gb, 2, none⟩ = some (.int .i64 a) := hD4.box.cell (j := 2) (by omega)
    have z0 := hD4.box.frozen 2
    have hD5 := hD4.set2 ⟨⟨hrc, hs1⟩, by omega⟩ v
    clear hD4
    have r0 : (w4.setCell ⟨gb, 2, none⟩ (.int .i64 v)).cell? ⟨w.heap.size + 1, 0, none⟩ = some (.int .i64 0) := hD5.res.cell (j := 0) (by omega)
    have r1 : (w4.setCell ⟨gb, 2, none⟩ (.int .i64 v)).cell? ⟨w.heap.size + 1, 1, none⟩ = some (.slice none 0 0) := hD5.res.cell (j := 1) (by omega)
    have r2 : (w4.setCell ⟨gb, 2, none⟩ (.int .i64 v)).cell? ⟨w.heap.size + 1, 2, none⟩ = some (.int .i64 0) := hD5.res.cell (j := 2) (by omega)
    have r3 : (w4.setCell ⟨gb, 2, none⟩ (.int .i64 v)).cell? ⟨w.heap.size + 1, 3, none⟩ = some (.int .i64 0) := hD5.res.cell (j := 3) (by omega)
    have y0 := hD5.res.frozen 0
    have y1 := hD5.res.frozen 1
    have y2 := hD5.res.frozen 2
    have y3 := hD5.res.frozen 3
    have b0 : (w4.setCell ⟨gb, 2, none⟩ (.int .i64 v)).cell? ⟨gb, 0, none⟩ = some (.int .i64 K) := hD5.box.cell (j := 0) (by omega)
    have b1 : (w4.setCell ⟨gb, 2, none⟩ (.int .i64 v)).cell? ⟨gb, 1, none⟩ = some (.slice xo m xc) := hD5.box.cell (j := 1) (by omega)
    have b2 : (w4.setCell ⟨gb, 2, none⟩ (.int .i64 v)).cell? ⟨gb, 2, none⟩ = some (.int .i64 v) := hD5.box.cell (j := 2) (by omega)
    have b3 : (w4.setCell ⟨gb, 2, none⟩ (.int .i64 v)).cell? ⟨gb, 3, none⟩ = some (.int .i64 b) := hD5.box.cell (j := 3) (by omega)
    obtain ⟨s0, s1, s2, s3⟩ := st4 hD5.res (.int .i64 K) (.slice xo m xc) (.int .i64 v) (.int .i64 b)
    obtain ⟨o1, o2, o3⟩ := hD5.out ⟨⟨hrc, hs1⟩, by omega⟩ (.int .i64 K) (.slice xo m xc) (.int .i64 v) (.int .i64 b)
    go_wp2
    exact bodyPost_ret (v := .agg #[.int .i64 K, .slice xo m xc, .int .i64 v, .int .i64 b]) (by simp [results, Tryd.results40, go_sem, s0, s1, s2, s3]) rfl ⟨_, _, _, _, _, _, rfl, by omega, by omega, o1.from (by omega), o2, o3⟩
  · have hal := (Below.refl w3.heap.size w3).alloc (Nat.le_refl _) (.cells #[.int .i64 (-1), .int .i64 23, .int .i64 24, .int .i64 1] 2)
    go_wp2_with fail
    refine (l1Below_any base c ao n cap 4 (by omega) (by omega) _ (hD3.next hal).cur).mono ?_
    rintro e w4 ⟨y, rfl, hy, hC4, hg4⟩
    have hD4 := (hD3.next hal).step ⟨hrc, hs1⟩ hC4 hg4
    obtain ⟨v, hv⟩ := litP ((hg4.block w3.heap.size (by simp) (by simp; omega)).trans (Go.Deep.blk_alloc_new _ _)) (show y < 4 by omega)
    clear hC4 hg4 hD3 hal
    have hy' : (y : Int) < 4 := by omega
    have c0 : w4.cell? ⟨gb, 3, none⟩ = some (.int .i64 b) := hD4.box.cell (j := 3) (by omega)
    have z0 := hD4.box.frozen 3
    have hD5 := hD4.set3 ⟨⟨hrc, hs1⟩, by omega⟩ v
    clear hD4
    have r0 : (w4.setCell ⟨gb, 3, none⟩ (.int .i64 v)).cell? ⟨w.heap.size + 1, 0, none⟩ = some (.int .i64 0) := hD5.res.cell (j := 0) (by omega)
    have r1 : (w4.setCell ⟨gb, 3, none⟩ (.int .i64 v)).cell? ⟨w.heap.size + 1, 1, none⟩ = some (.slice none 0 0) := hD5.res.cell (j := 1) (by omega)
    have r2 : (w4.setCell ⟨gb, 3, none⟩ (.int .i64 v)).cell? ⟨w.heap.size + 1, 2, none⟩ = some (.int .i64 0) := hD5.res.cell (j := 2) (by omega)
    have r3 : (w4.setCell ⟨gb, 3, none⟩ (.int .i64 v)).cell? ⟨w.heap.size + 1, 3, none⟩ = some (.int .i64 0) := hD5.res.cell (j := 3) (by omega)
    have y0 := hD5.res.frozen 0
    have y1 := hD5.res.frozen 1
    have y2 := hD5.res.frozen 2
    have y3 := hD5.res.frozen 3
    have b0 : (w4.setCell ⟨gb, 3, none⟩ (.int .i64 v)).cell? ⟨gb, 0, none⟩ = some (.int .i64 K) := hD5.box.cell (j := 0) (by omega)
    have b1 : (w4.setCell ⟨gb, 3, none⟩ (.int .i64 v)).cell? ⟨gb, 1, none⟩ = some (.slice xo m xc) := hD5.box.cell (j := 1) (by omega)
    have b2 : (w4.setCell ⟨gb, 3, none⟩ (.int .i64 v)).cell? ⟨gb, 2, none⟩ = some (.int .i64 a) := hD5.box.cell (j := 2) (by omega)
    have b3 : (w4.setCell ⟨gb, 3, none⟩ (.int .i64 v)).cell? ⟨gb, 3, none⟩ = some (.int .i64 v) := hD5.box.cell (j := 3) (by omega)
    obtain ⟨s0, s1, s2, s3⟩ := st4 hD5.res (.int .i64 K) (.slice xo m xc) (.int .i64 a) (.int .i64 v)
    obtain ⟨o1, o2, o3⟩ := hD5.out ⟨⟨hrc, hs1⟩, by omega⟩ (.int .i64 K) (.slice xo m xc) (.int .i64 a) (.int .i64 v)
    go_wp2
    exact bodyPost_ret (v := .agg #[.int .i64 K, .slice xo m xc, .int .i64 a, .int .i64 v]) (by simp [results, Tryd.results40, go_sem, s0, s1, s2, s3]) rfl ⟨_, _, _, _, _, _, rfl, by omega, by omega, o1.from (by omega), o2, o3⟩
  · have b1 : w3.cell? ⟨gb, 1, none⟩ = some (.slice xo m xc) := hD3.box.cell (j := 1) (by omega)
    have hDc := hD3.next (Below.refl _ w3).drew
    clear hD3
    go_wp2
    go_region_law (first | (go_simp; go_at_call 47; refine (l1Below_any base c ao n cap 3 (by omega) (by omega) _ hDc.cur).mono ?_; rintro e w5 ⟨zz, rfl, hzb, hC5, hg5⟩; replace hDc := hDc.step ⟨hrc, hs1⟩ hC5 hg5; have b5 : w5.cell? ⟨gb, 1, none⟩ = some (.slice xo m xc) := hDc.box.cell (j := 1) (by omega); have hl5 := hDc.box.lt; clear hC5 hg5) | (refine step_append_arc ?_ (.tmp 41) (.tmp 49) ?_ (w.heap.size + 1 + 1) m xc xo ?_ (hDc.own.next ((Below.refl _ _).alloc (Nat.le_refl _) _)) w5.heap.size ?_ _ _ _ (Go.Deep.blk_alloc_new _ _) (by omega) (by have := hDc.box.lt; simp; omega) (by first | exact wfA (by omega) | exact wf_wrap _) (by first | exact wfA (by omega) | exact wf_wrap _) (by first | exact wfA (by omega) | exact wf_wrap _) ?_; rfl; rfl; rfl; rfl; intro g' gc' w6 hown6 hgrow hr6; have hbx6 := (hDc.box.alloc _).grown hgrow (fun e => (hDc.row e.symm).2 rfl); have hb6 : w6.cell? ⟨gb, 1, none⟩ = some (.slice xo m xc) := hbx6.cell (j := 1) (by omega); have hz6 := hbx6.frozen 1))
    all_goals
      have R := (hDc.next ((Below.refl _ _).alloc (Nat.le_refl _) _)).appended ⟨⟨hrc, hs1⟩, by omega⟩ hgrow hown6 hr6
      clear hbx6 hb6 hz6 hDc hgrow hown6 hr6
      have r0 : (w6.setCell ⟨gb, 1, none⟩ (.slice (some ⟨g', 0, none⟩) (m + 1) gc')).cell? ⟨w.heap.size + 1, 0, none⟩ = some (.int .i64 0) := R.res.cell (j := 0) (by omega)
      have r1 : (w6.setCell ⟨gb, 1, none⟩ (.slice (some ⟨g', 0, none⟩) (m + 1) gc')).cell? ⟨w.heap.size + 1, 1, none⟩ = some (.slice none 0 0) := R.res.cell (j := 1) (by omega)
      have r2 : (w6.setCell ⟨gb, 1, none⟩ (.slice (some ⟨g', 0, none⟩) (m + 1) gc')).cell? ⟨w.heap.size + 1, 2, none⟩ = some (.int .i64 0) := R.res.cell (j := 2) (by omega)
      have r3 : (w6.setCell ⟨gb, 1, none⟩ (.slice (some ⟨g', 0, none⟩) (m + 1) gc')).cell? ⟨w.heap.size + 1, 3, none⟩ = some (.int .i64 0) := R.res.cell (j := 3) (by omega)
      have y0 := R.res.frozen 0
      have y1 := R.res.frozen 1
      have y2 := R.res.frozen 2
      have y3 := R.res.frozen 3
      have b0 : (w6.setCell ⟨gb, 1, none⟩ (.slice (some ⟨g', 0, none⟩) (m + 1) gc')).cell? ⟨gb, 0, none⟩ = some (.int .i64 K) := R.box.cell (j := 0) (by omega)
      have b1 : (w6.setCell ⟨gb, 1, none⟩ (.slice (some ⟨g', 0, none⟩) (m + 1) gc')).cell? ⟨gb, 1, none⟩ = some (.slice (some ⟨g', 0, none⟩) (m + 1) gc') := R.box.cell (j := 1) (by omega)
      have b2 : (w6.setCell ⟨gb, 1, none⟩ (.slice (some ⟨g', 0, none⟩) (m + 1) gc')).cell? ⟨gb, 2, none⟩ = some (.int .i64 a) := R.box.cell (j := 2) (by omega)
      have b3 : (w6.setCell ⟨gb, 1, none⟩ (.slice (some ⟨g', 0, none⟩) (m + 1) gc')).cell? ⟨gb, 3, none⟩ = some (.int .i64 b) := R.box.cell (j := 3) (by omega)
      obtain ⟨s0, s1, s2, s3⟩ := st4 R.res (.int .i64 K) (.slice (some ⟨g', 0, none⟩) (m + 1) gc') (.int .i64 a) (.int .i64 b)
      obtain ⟨o1, o2, o3⟩ := R.out ⟨⟨hrc, hs1⟩, by omega⟩ (.int .i64 K) (.slice (some ⟨g', 0, none⟩) (m + 1) gc') (.int .i64 a) (.int .i64 b)
      go_wp2
      exact bodyPost_ret (v := .agg #[.int .i64 K, .slice (some ⟨g', 0, none⟩) (m + 1) gc', .int .i64 a, .int .i64 b]) (by simp [results, Tryd.results40, go_sem, s0, s1, s2, s3]) rfl ⟨_, _, _, _, _, _, rfl, by omega, by omega, o1.from (by omega), o2, o3⟩
  · have c1 : w3.cell? ⟨gb, 1, none⟩ = some (.slice xo m xc) := hD3.box.cell (j := 1) (by omega)
    have z1 := hD3.box.frozen 1
    have hal := (Below.refl w3.heap.size w3).alloc (Nat.le_refl _) (.cells #[] 50)
    have hD4 := (hD3.next hal).arcs ⟨⟨hrc, hs1⟩, by omega⟩ (aown_empty w3 (base := w.heap.size + 1 + 1) (by omega)) (fun x e => by cases e; exact Nat.ne_of_gt hgl3)
    rw [World.setCell_alloc_past _ _ _ _ hgl3] at hD4
    clear hD3
    go_wp2
    clear c1 z1 hal
    go_loopw [6] (fun x wr => ∃ (i gc : Nat) (go : Option Addr), i ≤ 11 ∧ x = .int .i64 i ∧ CS w base c ao n cap (w.heap.size + 1) gb K go i gc a b wr) (fun x _ => 11 - (intOf x).toNat)
    case atStart => exact ⟨0, 0, _, by omega, rfl, hD4⟩
    case round =>
      clear hD4
      obtain ⟨i, gc, go, hi, rfl, hD⟩ := hrel
      go_wp2_with fail
      refine (l1Below_any base c ao n cap 2 (by omega) (by omega) _ hD.cur).mono ?_
      rintro e w5 ⟨x, rfl, hx2, hC5, hg5⟩
      have hD5 := hD.step ⟨hrc, hs1⟩ hC5 hg5
      clear hD hC5 hg5
      have hl5 := hD5.box.lt
      by_cases hlt : i < 10 + x
      rotate_left
      · have hlt' : ¬ (i : Int) < 10 + (x : Int) := by omega
        have r0 : w5.cell? ⟨w.heap.size + 1, 0, none⟩ = some (.int .i64 0) := hD5.res.cell (j := 0) (by omega)
        have r1 : w5.cell? ⟨w.heap.size + 1, 1, none⟩ = some (.slice none 0 0) := hD5.res.cell (j := 1) (by omega)
        have r2 : w5.cell? ⟨w.heap.size + 1, 2, none⟩ = some (.int .i64 0) := hD5.res.cell (j := 2) (by omega)
        have r3 : w5.cell? ⟨w.heap.size + 1, 3, none⟩ = some (.int .i64 0) := hD5.res.cell (j := 3) (by omega)
        have y0 := hD5.res.frozen 0
        have y1 := hD5.res.frozen 1
        have y2 := hD5.res.frozen 2
        have y3 := hD5.res.frozen 3
        have b0 : w5.cell? ⟨gb, 0, none⟩ = some (.int .i64 K) := hD5.box.cell (j := 0) (by omega)
        have b1 : w5.cell? ⟨gb, 1, none⟩ = some (.slice go i gc) := hD5.box.cell (j := 1) (by omega)
        have b2 : w5.cell? ⟨gb, 2, none⟩ = some (.int .i64 a) := hD5.box.cell (j := 2) (by omega)
        have b3 : w5.cell? ⟨gb, 3, none⟩ = some (.int .i64 b) := hD5.box.cell (j := 3) (by omega)
        obtain ⟨s0, s1, s2, s3⟩ := st4 hD5.res (.int .i64 K) (.slice go i gc) (.int .i64 a) (.int .i64 b)
        obtain ⟨o1, o2, o3⟩ := hD5.out ⟨⟨hrc, hs1⟩, by omega⟩ (.int .i64 K) (.slice go i gc) (.int .i64 a) (.int .i64 b)
        go_wp2
        exact bodyPost_ret (v := .agg #[.int .i64 K, .slice go i gc, .int .i64 a, .int .i64 b]) (by simp [results, Tryd.results40, go_sem, s0, s1, s2, s3]) rfl ⟨_, _, _, _, _, _, rfl, by omega, by omega, o1.from (by omega), o2, o3⟩
      have hlt' : (i : Int) < 10 + (x : Int) := by omega
      have b1 : w5.cell? ⟨gb, 1, none⟩ = some (.slice go i gc) := hD5.box.cell (j := 1) (by omega)
      go_wp2_with (at_builtin; refine wpList_append_arc rfl _ _ rfl (w.heap.size + 1 + 1) i gc go rfl (hD5.own.next ((Below.refl _ _).alloc (Nat.le_refl _) _)) w5.heap.size rfl _ _ _ (Go.Deep.blk_alloc_new _ _) (by omega) (by simp; omega) (by first | exact wfA (by omega) | exact wf_wrap _) (by first | exact wfA (by omega) | exact wf_wrap _) (by first | exact wfA (by omega) | exact wf_wrap _) ?_; intro g' gc' w6 hown6 hgrow hr6; have hbx6 := (hD5.box.alloc _).grown hgrow (fun e => (hD5.row e.symm).2 rfl); have hb6 : w6.cell? ⟨gb, 1, none⟩ = some (.slice go i gc) := hbx6.cell (j := 1) (by omega); have hz6 := hbx6.frozen 1)
      all_goals
        have R := (hD5.next ((Below.refl _ _).alloc (Nat.le_refl _) _)).appended ⟨⟨hrc, hs1⟩, by omega⟩ hgrow hown6 hr6
        clear hbx6 hb6 hz6 hD5 hgrow hown6 hr6
        go_wp2
        go_roundw
        case rel => exact ⟨i + 1, gc', _, by omega, by go_num, R⟩
        case measure => simp [intOf]; omega

end Go.Proofs.YtcmeppjfjledfacDoor

/-
  l1Int of any number: some short text.
-/
set_option linter.unusedVariables false
set_option linter.unusedSimpArgs false
namespace Go.Proofs.YtcmeppjfjledfacDoor
open Go.RowKit
attribute [local go_sem ↓] Go.wp_at_zero Go.wp_at_succ

theorem wrap_abs (x : Int) : (IntKind.i64.wrap x).natAbs ≤ 9223372036854775808 := by rw [IntKind.wrap_i64]; omega
theorem div10_abs (x : Int) : (x.tdiv 10).natAbs = x.natAbs / 10 := by rw [Int.natAbs_tdiv]; rfl
theorem wrap_small {x : Int} (h : x.natAbs < 9223372036854775808) : IntKind.i64.wrap x = x := by rw [IntKind.wrap_i64]; omega

theorem sn_size (v : Int) : (strOfNums [v]).size = 1 := by simp [strOfNums]; rfl
theorem pow_le {r k : Nat} (h : r * 10 ^ k ≤ 9223372036854775808) (hr : 0 < r) : k ≤ 18 := by
  rcases Nat.lt_or_ge k 19 with h1 | h1
  · omega
  · have h2 : 10 ^ 19 ≤ 10 ^ k := Nat.pow_le_pow_right (by omega) h1
    have h3 : 10 ^ k ≤ r * 10 ^ k := Nat.le_mul_of_pos_left _ hr
    have h4 : (10 : Nat) ^ 19 = 10000000000000000000 := by decide
    omega
theorem pow_step {r k : Nat} (h : r * 10 ^ k ≤ 9223372036854775808) : r / 10 * 10 ^ (k + 1) ≤ 9223372036854775808 := by
  have h1 : r / 10 * 10 ≤ r := Nat.div_mul_le_self r 10
  have h2 : r / 10 * 10 ^ (k + 1) = r / 10 * 10 * 10 ^ k := by rw [Nat.pow_succ, Nat.mul_comm (10 ^ k) 10, Nat.mul_assoc]
  rw [h2]
  exact Nat.le_trans (Nat.mul_le_mul_right _ h1) h
/-- What stands while the digits are set down. -/
def Dig (r : Int) (o : ByteArray) : Prop := o.size ≤ 20 ∧ (o.size = 0 ∨ r.natAbs * 10 ^ (o.size - 1) ≤ 9223372036854775808)
theorem Dig.step {r : Int} {o x : ByteArray} (h : Dig r o) (hc : o.size = 0 ∨ r ≠ 0) (hx : x.size = 1 + o.size) : Dig (IntKind.i64.wrap (r.tdiv 10)) x := by
  obtain ⟨h1, h2⟩ := h
  rcases Nat.eq_zero_or_pos o.size with h0 | h0
  · refine ⟨by omega, .inr ?_⟩
    rw [hx, h0]
    have := wrap_abs (r.tdiv 10)
    simpa using this
  · have h3 := h2.resolve_left (by omega)
    have hr : 0 < r.natAbs := by
      have := hc.resolve_left (by omega)
      omega
    have h4 := pow_le h3 hr
    refine ⟨by omega, .inr ?_⟩
    have h5 : r.natAbs ≤ 9223372036854775808 := Nat.le_trans (Nat.le_mul_of_pos_right _ (Nat.pow_pos (by omega))) h3
    have h6 : (r.tdiv 10).natAbs < 9223372036854775808 := by rw [div10_abs]; omega
    rw [wrap_small h6, div10_abs, hx]
    have := pow_step h3
    rw [show o.size - 1 + 1 = 1 + o.size - 1 by omega] at this
    exact this
theorem Dig.step64 {r : Int} {o x : ByteArray} (h : Dig r o) (hc : o.size = 0 ∨ r ≠ 0) (hx : x.size = 1 + o.size) : Dig (wrap64 (r.tdiv 10)) x := by
  have := h.step hc hx
  rwa [show IntKind.i64.wrap (r.tdiv 10) = wrap64 (r.tdiv 10) by first | rfl | (rw [IntKind.wrap_i64]; rfl) | (unfold wrap64; rw [IntKind.wrap_i64])] at this
def strLen : Value → Nat
  | .string o => o.size
  | _ => 0

set_option maxRecDepth 100000 in
set_option maxHeartbeats 2000000 in
theorem l1Int_some (p : Int) (w : World) :
    Calls Tryd.prog 64 #[.int .i64 p] w fun e w' => ∃ x : ByteArray, e = .returned (.string x) ∧ (1 ≤ x.size ∧ x.size ≤ 30) ∧ Below w.heap.size w w' := by
  go_enter Tryd.func64, Tryd.ntmps64
  go_wp2
  go_loopw [0, 3] (fun q s wr => ∃ (r : Int) (o : ByteArray), q = .int .i64 r ∧ s = .string o ∧ Dig r o ∧ Below w.heap.size w wr) (fun _ s _ => 40 - strLen s)
  case atStart => exact ⟨p, ByteArray.empty, rfl, rfl, ⟨by simp, .inl (by simp)⟩, Below.refl _ _⟩
  case round =>
    obtain ⟨r, o, rfl, rfl, hD, hbel⟩ := hrel
    have hsz := hD.1
    have hcv : ∀ v : Int, (convert 22 9 (.slice (some ⟨wr.heap.size, 0, none⟩) 1 1)).run Tryd.prog (wr.alloc (.cells #[.int .u8 v] 5)) = .ok (.string (strOfNums [v])) (wr.alloc (.cells #[.int .u8 v] 5)) := fun v =>
      run_convert_bytes_arg (P := Tryd.prog) (wr.alloc (.cells #[.int .u8 v] 5)) 22 5 Tryd.underlying22 Tryd.underlying5 wr.heap.size 0 1 1 [v] rfl (fun i hi => by
        obtain rfl : i = 0 := by omega
        simp [go_sem]) 9 Tryd.underlying9
    have hsn := sn_size
    have hs2 : ¬ (9223372036854775807 : Int) < 1 + (o.size : Int) := by omega
    have hbA : ∀ x, Below w.heap.size w (wr.alloc x) := fun x => hbel.alloc hbel.size x
    by_cases h0 : o.size = 0
    · have ho : o = ByteArray.empty := by
        obtain ⟨⟨l⟩⟩ := o
        cases l with
        | nil => rfl
        | cons a l => exact absurd h0 (by simp [ByteArray.size])
      subst ho
      by_cases hn : r.tmod 10 < 0
      · go_wp2
        go_roundw
        case rel => refine ⟨_, _, rfl, rfl, hD.step64 (.inl rfl) ?_, hbA _⟩; rw [sn_size]; rfl
        case measure => simp only [strLen]; rw [sn_size]; simp
      · go_wp2
        go_roundw
        case rel => refine ⟨_, _, rfl, rfl, hD.step64 (.inl rfl) ?_, hbA _⟩; rw [sn_size]; rfl
        case measure => simp only [strLen]; rw [sn_size]; simp
    have hne : (o.toList == []) = false := by
      cases hl : o.toList with
      | nil =>
        have : o.size = o.toList.length := by rw [ByteArray.toList_eq]; simp
        rw [hl] at this
        exact absurd this (by simpa using h0)
      | cons a l => rfl
    have hne2 : ¬ o.toList = [] := by simpa using hne
    by_cases hz : r = 0
    · subst hz
      by_cases hp : p < 0
      · go_wp2
        go_ret
        exact ⟨_, rfl, by rw [ByteArray.size_append, show ({ data := #[45] } : ByteArray).size = 1 from rfl]; omega, hbel⟩
      · go_wp2
        go_ret
        exact ⟨_, rfl, ⟨by omega, by omega⟩, hbel⟩
    by_cases hn : r.tmod 10 < 0
    · go_wp2
      go_roundw
      case rel => refine ⟨_, _, rfl, rfl, hD.step64 (.inr hz) ?_, hbA _⟩; rw [ByteArray.size_append, sn_size]
      case measure => simp only [strLen]; rw [ByteArray.size_append, sn_size]; omega
    · go_wp2
      go_roundw
      case rel => refine ⟨_, _, rfl, rfl, hD.step64 (.inr hz) ?_, hbA _⟩; rw [ByteArray.size_append, sn_size]
      case measure => simp only [strLen]; rw [ByteArray.size_append, sn_size]; omega

end Go.Proofs.YtcmeppjfjledfacDoor

/-
  l1Int of any number: some text, not too long.
-/
set_option linter.unusedVariables false
set_option linter.unusedSimpArgs false
namespace Go.Proofs.YtcmeppjfjledfacDoor
open Go.RowKit
attribute [local go_sem ↓] Go.wp_at_zero Go.wp_at_succ

theorem l1Int_sl (p : Int) (w : World) :
    Calls Tryd.prog 64 #[.int .i64 p] w fun e w' => ∃ l : List UInt8, e = .returned (txt l) ∧ (1 ≤ l.length ∧ l.length ≤ 30) ∧ Below w.heap.size w w' := by
  refine (l1Int_some p w).mono ?_
  rintro e w' ⟨x, rfl, hx, hb⟩
  obtain ⟨⟨l⟩⟩ := x
  exact ⟨l, rfl, hx, hb⟩
def arcL (a b c : List UInt8) : List UInt8 := 32 :: (a ++ (32 :: (b ++ (32 :: c))))
theorem arcL_len (a b c : List UInt8) : (arcL a b c).length = 3 + a.length + b.length + c.length := by simp [arcL]; omega
end Go.Proofs.YtcmeppjfjledfacDoor

/-
  l9Show of any command: some text, not too long.
-/
set_option linter.unusedVariables false
set_option linter.unusedSimpArgs false
namespace Go.Proofs.YtcmeppjfjledfacDoor
open Go.RowKit
attribute [local go_sem ↓] Go.wp_at_zero Go.wp_at_succ

set_option maxRecDepth 20000 in
set_option maxHeartbeats 2000000 in
theorem l9Show_ask_some (ao : Option Addr) (n cap : Nat) (a b : Int) (w : World) :
    Calls Tryd.prog 33 #[.agg #[.int .i64 3, .slice ao n cap, .int .i64 a, .int .i64 b]] w fun e w' => ∃ l : List UInt8, e = .returned (txt l) ∧ l.length ≤ 40000 ∧ Below w.heap.size w w' := by
  have hA := (Below.refl w.heap.size w).alloc (Nat.le_refl _) (.cells #[.int .i64 3, .slice ao n cap, .int .i64 a, .int .i64 b] 26)
  have x2 : (w.alloc (.cells #[.int .i64 3, .slice ao n cap, .int .i64 a, .int .i64 b] 26)).cell? ⟨w.heap.size, 2, none⟩ = some (.int .i64 a) := by simp [go_sem]
  have x3 : (w.alloc (.cells #[.int .i64 3, .slice ao n cap, .int .i64 a, .int .i64 b] 26)).cell? ⟨w.heap.size, 3, none⟩ = some (.int .i64 b) := by simp [go_sem]
  have Q1 : ∀ a : List UInt8, (1 ≤ a.length ∧ a.length ≤ 30) → ¬ 9223372036854775807 < 4 + a.length := fun a h => by omega
  have Q2 : ∀ a : List UInt8, (1 ≤ a.length ∧ a.length ≤ 30) → ¬ 9223372036854775807 < 4 + a.length + 1 := fun a h => by omega
  have Q3 : ∀ a b : List UInt8, (1 ≤ a.length ∧ a.length ≤ 30) → (1 ≤ b.length ∧ b.length ≤ 30) → ¬ 9223372036854775807 < 4 + a.length + 1 + b.length := fun a b h h' => by omega
  go_enter Tryd.func33, Tryd.ntmps33
  go_wp2
  replace hA := hA.drew
  generalize (w.alloc (.cells #[.int .i64 3, .slice ao n cap, .int .i64 a, .int .i64 b] 26)) = W at hA x2 x3 ⊢
  go_region_held3 (fun w' => w'.cell? ⟨w.heap.size, 2, none⟩ = some (.int .i64 a) ∧ w'.cell? ⟨w.heap.size, 3, none⟩ = some (.int .i64 b))
    (first | (go_split_ands; refine ⟨?_, ?_⟩ <;> exact keep_cell hb3 (Nat.le_refl _) (by assumption)) | (go_split_ands; refine ⟨?_, ?_⟩ <;> exact keep_cell hb2 (Nat.le_refl _) (by assumption)) | go_keep)
    (first | (go_at_call_of 64 (Value.int IntKind.i64 a); refine (l1Int_sl a _).mono ?_; rintro e w2 ⟨lA, rfl, hlA, hb2⟩; have q1 := Q1 lA hlA; have q2 := Q2 lA hlA; replace hA := below_next hA (Nat.le_refl _) hb2) | (go_at_call_of 64 (Value.int IntKind.i64 b); refine (l1Int_sl b _).mono ?_; rintro e w3 ⟨lB, rfl, hlB, hb3⟩; have q3 := Q3 lA lB hlA hlB; replace hA := below_next hA (Nat.le_refl _) hb3))
  all_goals
    go_wp2
    go_ret
    exact ⟨_, congrArg (fun x => Ending.returned (.string x)) (ask_add lA lB), by simp [txAsk]; omega, hA⟩

set_option maxRecDepth 20000 in
set_option maxHeartbeats 2000000 in
theorem l9Show_weigh_0 (ao : Option Addr) (n cap : Nat) (a b : Int) (F T G : Nat → Int) (hn : n ≤ 300) (w : World) (hr : Row w ao n F T G) :
    Calls Tryd.prog 33 #[.agg #[.int .i64 0, .slice ao n cap, .int .i64 a, .int .i64 b]] w fun e w' => ∃ l : List UInt8, e = .returned (txt l) ∧ l.length ≤ 40000 ∧ Below w.heap.size w w' := by
  have hcv : (convert 22 22 (.slice (some ⟨w.heap.size + 1, 0, none⟩) 5 5)).run Tryd.prog ((w.alloc (.cells #[.int .i64 0, .slice ao n cap, .int .i64 a, .int .i64 b] 26)).alloc (.cells #[.int .u8 119, .int .u8 101, .int .u8 105, .int .u8 103, .int .u8 104] 5)) = .ok (.slice (some ⟨w.heap.size + 1, 0, none⟩) 5 5) ((w.alloc (.cells #[.int .i64 0, .slice ao n cap, .int .i64 a, .int .i64 b] 26)).alloc (.cells #[.int .u8 119, .int .u8 101, .int .u8 105, .int .u8 103, .int .u8 104] 5 (5, 6))) := by
    have := Go.Lib.run_convert_bytes_const (P := Tryd.prog) (w.alloc (.cells #[.int .i64 0, .slice ao n cap, .int .i64 a, .int .i64 b] 26)) 22 5 #[.int .u8 119, .int .u8 101, .int .u8 105, .int .u8 103, .int .u8 104] 5 5 Tryd.underlying22 Tryd.underlying5
    rw [World.size_alloc] at this
    exact this
  go_enter Tryd.func33, Tryd.ntmps33
  go_wp2
  clear hcv
  have hb0 := brow_lit (w.alloc (.cells #[.int .i64 0, .slice ao n cap, .int .i64 a, .int .i64 b] 26))
  go_loopw [3, 4] (fun b9 i wr => ∃ k : Nat, k ≤ n ∧ i = .int .i64 k ∧ ∃ g cap' l, b9 = .slice (some ⟨g, 0, none⟩) (List.length l) cap' ∧ (1 ≤ l.length ∧ l.length ≤ 100 * (k + 1)) ∧ w.heap.size + 1 ≤ g ∧ BRow wr g cap' l ∧ Below (w.heap.size + 1) (w.alloc (.cells #[.int .i64 0, .slice ao n cap, .int .i64 a, .int .i64 b] 26)) wr) (fun _ i _ => n - (intOf i).toNat)
  case atStart => exact ⟨0, Nat.zero_le _, rfl, w.heap.size + 1, 5, txWeigh, rfl, ⟨by decide, by decide⟩, Nat.le_refl _, by have h9 := hb0; rw [World.size_alloc] at h9; exact h9, (Below.refl _ _).alloc (by simp) _⟩
  case round =>
    clear hb0
    obtain ⟨k, hk, rfl, g, cap', l, rfl, hll, hg, hb, hbel⟩ := hrel
    obtain ⟨g0, g1, _, _, hsz⟩ := box4 hbel
    by_cases hlt : k < n
    rotate_left
    · have e : k = n := by omega
      subst e
      have hcv := conv_txt hb
      go_wp2
      go_ret
      exact ⟨l, rfl, by omega, unbox hbel (by omega)⟩
    obtain ⟨bb, o, hao, c0, c1, c2⟩ := ((hr.alloc _).below hbel (by simp)) k hlt
    subst hao
    go_wp2
    have hgl : g < wr.heap.size := hb.lt (by omega)
    have hA := (hbel.alloc (by omega) (.cells #[.int .i64 (F k), .int .i64 (T k), .int .i64 (G k)] 50)).drew
    have hbA := (hb.below ((Below.refl wr.heap.size wr).alloc (Nat.le_refl _) (.cells #[.int .i64 (F k), .int .i64 (T k), .int .i64 (G k)] 50)).drew (Nat.le_refl _))
    have Q1 : ∀ a : List UInt8, (1 ≤ a.length ∧ a.length ≤ 30) → ¬ 9223372036854775807 < 1 + a.length := fun a h => by omega
    have Q2 : ∀ a : List UInt8, (1 ≤ a.length ∧ a.length ≤ 30) → ¬ 9223372036854775807 < 1 + a.length + 1 := fun a h => by omega
    have Q3 : ∀ a b : List UInt8, (1 ≤ a.length ∧ a.length ≤ 30) → (1 ≤ b.length ∧ b.length ≤ 30) → ¬ 9223372036854775807 < 1 + a.length + 1 + b.length := fun a b h h' => by omega
    have Q4 : ∀ a b : List UInt8, (1 ≤ a.length ∧ a.length ≤ 30) → (1 ≤ b.length ∧ b.length ≤ 30) → ¬ 9223372036854775807 < 1 + a.length + 1 + b.length + 1 := fun a b h h' => by omega
    have Q5 : ∀ a b c : List UInt8, (1 ≤ a.length ∧ a.length ≤ 30) → (1 ≤ b.length ∧ b.length ≤ 30) → (1 ≤ c.length ∧ c.length ≤ 30) → ¬ 9223372036854775807 < 1 + a.length + 1 + b.length + 1 + c.length := fun a b c h h' h2 => by omega
    have HS1 : w.heap.size + 1 ≤ (w.alloc (.cells #[.int .i64 0, .slice (some ⟨bb, o, none⟩) n cap, .int .i64 a, .int .i64 b] 26)).heap.size := by simp
    have Q6 : ∀ a b c : List UInt8, (1 ≤ a.length ∧ a.length ≤ 30) → (1 ≤ b.length ∧ b.length ≤ 30) → (1 ≤ c.length ∧ c.length ≤ 30) → l.length + (arcL a b c).length ≤ 1000000000000 := fun a b c h h' h2 => by have := arcL_len a b c; omega
    go_region_held3 (fun w' => w'.cell? ⟨wr.heap.size, 0, none⟩ = some (.int .i64 (F k)) ∧ w'.cell? ⟨wr.heap.size, 1, none⟩ = some (.int .i64 (T k)) ∧ w'.cell? ⟨wr.heap.size, 2, none⟩ = some (.int .i64 (G k)))
      (first | (go_split_ands; refine ⟨?_, ?_, ?_⟩ <;> exact keep_cell ‹_› (Nat.le_refl _) (by assumption)) | (go_split_ands; refine ⟨?_, ?_, ?_⟩ <;> exact hgr5.cell (by assumption) (by simp; omega)) | go_keep)
      (first | (go_at_call_of 64 (Value.int IntKind.i64 (F k)); refine (l1Int_sl (F k) _).mono ?_; rintro e w2 ⟨lF, rfl, hlF, hb2⟩; replace hbA := hbA.below hb2 (Nat.le_refl _); replace hA := below_next hA HS1 hb2; have q1 := Q1 lF hlF; have q2 := Q2 lF hlF) | (go_at_call_of 64 (Value.int IntKind.i64 (T k)); refine (l1Int_sl (T k) _).mono ?_; rintro e w2 ⟨lT, rfl, hlT, hb2⟩; replace hbA := hbA.below hb2 (Nat.le_refl _); replace hA := below_next hA HS1 hb2; have q3 := Q3 lF lT hlF hlT; have q4 := Q4 lF lT hlF hlT) | (go_at_call_of 64 (Value.int IntKind.i64 (G k)); refine (l1Int_sl (G k) _).mono ?_; rintro e w2 ⟨lG, rfl, hlG, hb2⟩; replace hbA := hbA.below hb2 (Nat.le_refl _); replace hA := below_next hA HS1 hb2; have q5 := Q5 lF lT lG hlF hlT hlG) | (refine step_append_txt ?_ (.tmp 35) (.tmp 49) ?_ g cap' l (arcL lF lT lG) ?_ ?_ hbA ?_ (w.heap.size + 1) hg ?_ ?_; rfl; rfl; rfl; exact congrArg Value.string (arc_add _ _ _); exact Q6 lF lT lG hlF hlT hlG; (have := hA.size; simp at this; omega); intro g' cap'' w5 hg' hbB hb5 hgr5))
    go_wp2
    go_roundw
    case rel => exact ⟨k + 1, by omega, by go_num, g', cap'', l ++ arcL lF lT lG, by simp, ⟨by simp; omega, by have := arcL_len lF lT lG; simp; omega⟩, hg', hbB, hA.trans hb5⟩
    case measure => simp [intOf]; omega


set_option maxRecDepth 20000 in
set_option maxHeartbeats 2000000 in
theorem l9Show_weigh_2 (ao : Option Addr) (n cap : Nat) (a b : Int) (F T G : Nat → Int) (hn : n ≤ 300) (w : World) (hr : Row w ao n F T G) :
    Calls Tryd.prog 33 #[.agg #[.int .i64 2, .slice ao n cap, .int .i64 a, .int .i64 b]] w fun e w' => ∃ l : List UInt8, e = .returned (txt l) ∧ l.length ≤ 40000 ∧ Below w.heap.size w w' := by
  have hcv : (convert 22 22 (.slice (some ⟨w.heap.size + 1, 0, none⟩) 5 5)).run Tryd.prog ((w.alloc (.cells #[.int .i64 2, .slice ao n cap, .int .i64 a, .int .i64 b] 26)).alloc (.cells #[.int .u8 119, .int .u8 101, .int .u8 105, .int .u8 103, .int .u8 104] 5)) = .ok (.slice (some ⟨w.heap.size + 1, 0, none⟩) 5 5) ((w.alloc (.cells #[.int .i64 2, .slice ao n cap, .int .i64 a, .int .i64 b] 26)).alloc (.cells #[.int .u8 119, .int .u8 101, .int .u8 105, .int .u8 103, .int .u8 104] 5 (5, 6))) := by
    have := Go.Lib.run_convert_bytes_const (P := Tryd.prog) (w.alloc (.cells #[.int .i64 2, .slice ao n cap, .int .i64 a, .int .i64 b] 26)) 22 5 #[.int .u8 119, .int .u8 101, .int .u8 105, .int .u8 103, .int .u8 104] 5 5 Tryd.underlying22 Tryd.underlying5
    rw [World.size_alloc] at this
    exact this
  go_enter Tryd.func33, Tryd.ntmps33
  go_wp2
  clear hcv
  have hb0 := brow_lit (w.alloc (.cells #[.int .i64 2, .slice ao n cap, .int .i64 a, .int .i64 b] 26))
  go_loopw [3, 4] (fun b9 i wr => ∃ k : Nat, k ≤ n ∧ i = .int .i64 k ∧ ∃ g cap' l, b9 = .slice (some ⟨g, 0, none⟩) (List.length l) cap' ∧ (1 ≤ l.length ∧ l.length ≤ 100 * (k + 1)) ∧ w.heap.size + 1 ≤ g ∧ BRow wr g cap' l ∧ Below (w.heap.size + 1) (w.alloc (.cells #[.int .i64 2, .slice ao n cap, .int .i64 a, .int .i64 b] 26)) wr) (fun _ i _ => n - (intOf i).toNat)
  case atStart => exact ⟨0, Nat.zero_le _, rfl, w.heap.size + 1, 5, txWeigh, rfl, ⟨by decide, by decide⟩, Nat.le_refl _, by have h9 := hb0; rw [World.size_alloc] at h9; exact h9, (Below.refl _ _).alloc (by simp) _⟩
  case round =>
    clear hb0
    obtain ⟨k, hk, rfl, g, cap', l, rfl, hll, hg, hb, hbel⟩ := hrel
    obtain ⟨g0, g1, _, _, hsz⟩ := box4 hbel
    by_cases hlt : k < n
    rotate_left
    · have e : k = n := by omega
      subst e
      have hcv := conv_txt hb
      go_wp2
      go_ret
      exact ⟨l, rfl, by omega, unbox hbel (by omega)⟩
    obtain ⟨bb, o, hao, c0, c1, c2⟩ := ((hr.alloc _).below hbel (by simp)) k hlt
    subst hao
    go_wp2
    have hgl : g < wr.heap.size := hb.lt (by omega)
    have hA := (hbel.alloc (by omega) (.cells #[.int .i64 (F k), .int .i64 (T k), .int .i64 (G k)] 50)).drew
    have hbA := (hb.below ((Below.refl wr.heap.size wr).alloc (Nat.le_refl _) (.cells #[.int .i64 (F k), .int .i64 (T k), .int .i64 (G k)] 50)).drew (Nat.le_refl _))
    have Q1 : ∀ a : List UInt8, (1 ≤ a.length ∧ a.length ≤ 30) → ¬ 9223372036854775807 < 1 + a.length := fun a h => by omega
    have Q2 : ∀ a : List UInt8, (1 ≤ a.length ∧ a.length ≤ 30) → ¬ 9223372036854775807 < 1 + a.length + 1 := fun a h => by omega
    have Q3 : ∀ a b : List UInt8, (1 ≤ a.length ∧ a.length ≤ 30) → (1 ≤ b.length ∧ b.length ≤ 30) → ¬ 9223372036854775807 < 1 + a.length + 1 + b.length := fun a b h h' => by omega
    have Q4 : ∀ a b : List UInt8, (1 ≤ a.length ∧ a.length ≤ 30) → (1 ≤ b.length ∧ b.length ≤ 30) → ¬ 9223372036854775807 < 1 + a.length + 1 + b.length + 1 := fun a b h h' => by omega
    have Q5 : ∀ a b c : List UInt8, (1 ≤ a.length ∧ a.length ≤ 30) → (1 ≤ b.length ∧ b.length ≤ 30) → (1 ≤ c.length ∧ c.length ≤ 30) → ¬ 9223372036854775807 < 1 + a.length + 1 + b.length + 1 + c.length := fun a b c h h' h2 => by omega
    have HS1 : w.heap.size + 1 ≤ (w.alloc (.cells #[.int .i64 2, .slice (some ⟨bb, o, none⟩) n cap, .int .i64 a, .int .i64 b] 26)).heap.size := by simp
    have Q6 : ∀ a b c : List UInt8, (1 ≤ a.length ∧ a.length ≤ 30) → (1 ≤ b.length ∧ b.length ≤ 30) → (1 ≤ c.length ∧ c.length ≤ 30) → l.length + (arcL a b c).length ≤ 1000000000000 := fun a b c h h' h2 => by have := arcL_len a b c; omega
    go_region_held3 (fun w' => w'.cell? ⟨wr.heap.size, 0, none⟩ = some (.int .i64 (F k)) ∧ w'.cell? ⟨wr.heap.size, 1, none⟩ = some (.int .i64 (T k)) ∧ w'.cell? ⟨wr.heap.size, 2, none⟩ = some (.int .i64 (G k)))
      (first | (go_split_ands; refine ⟨?_, ?_, ?_⟩ <;> exact keep_cell ‹_› (Nat.le_refl _) (by assumption)) | (go_split_ands; refine ⟨?_, ?_, ?_⟩ <;> exact hgr5.cell (by assumption) (by simp; omega)) | go_keep)
      (first | (go_at_call_of 64 (Value.int IntKind.i64 (F k)); refine (l1Int_sl (F k) _).mono ?_; rintro e w2 ⟨lF, rfl, hlF, hb2⟩; replace hbA := hbA.below hb2 (Nat.le_refl _); replace hA := below_next hA HS1 hb2; have q1 := Q1 lF hlF; have q2 := Q2 lF hlF) | (go_at_call_of 64 (Value.int IntKind.i64 (T k)); refine (l1Int_sl (T k) _).mono ?_; rintro e w2 ⟨lT, rfl, hlT, hb2⟩; replace hbA := hbA.below hb2 (Nat.le_refl _); replace hA := below_next hA HS1 hb2; have q3 := Q3 lF lT hlF hlT; have q4 := Q4 lF lT hlF hlT) | (go_at_call_of 64 (Value.int IntKind.i64 (G k)); refine (l1Int_sl (G k) _).mono ?_; rintro e w2 ⟨lG, rfl, hlG, hb2⟩; replace hbA := hbA.below hb2 (Nat.le_refl _); replace hA := below_next hA HS1 hb2; have q5 := Q5 lF lT lG hlF hlT hlG) | (refine step_append_txt ?_ (.tmp 35) (.tmp 49) ?_ g cap' l (arcL lF lT lG) ?_ ?_ hbA ?_ (w.heap.size + 1) hg ?_ ?_; rfl; rfl; rfl; exact congrArg Value.string (arc_add _ _ _); exact Q6 lF lT lG hlF hlT hlG; (have := hA.size; simp at this; omega); intro g' cap'' w5 hg' hbB hb5 hgr5))
    go_wp2
    go_roundw
    case rel => exact ⟨k + 1, by omega, by go_num, g', cap'', l ++ arcL lF lT lG, by simp, ⟨by simp; omega, by have := arcL_len lF lT lG; simp; omega⟩, hg', hbB, hA.trans hb5⟩
    case measure => simp [intOf]; omega


set_option maxRecDepth 20000 in
set_option maxHeartbeats 2000000 in
theorem l9Show_weigh_4 (ao : Option Addr) (n cap : Nat) (a b : Int) (F T G : Nat → Int) (hn : n ≤ 300) (w : World) (hr : Row w ao n F T G) :
    Calls Tryd.prog 33 #[.agg #[.int .i64 4, .slice ao n cap, .int .i64 a, .int .i64 b]] w fun e w' => ∃ l : List UInt8, e = .returned (txt l) ∧ l.length ≤ 40000 ∧ Below w.heap.size w w' := by
  have hcv : (convert 22 22 (.slice (some ⟨w.heap.size + 1, 0, none⟩) 5 5)).run Tryd.prog ((w.alloc (.cells #[.int .i64 4, .slice ao n cap, .int .i64 a, .int .i64 b] 26)).alloc (.cells #[.int .u8 119, .int .u8 101, .int .u8 105, .int .u8 103, .int .u8 104] 5)) = .ok (.slice (some ⟨w.heap.size + 1, 0, none⟩) 5 5) ((w.alloc (.cells #[.int .i64 4, .slice ao n cap, .int .i64 a, .int .i64 b] 26)).alloc (.cells #[.int .u8 119, .int .u8 101, .int .u8 105, .int .u8 103, .int .u8 104] 5 (5, 6))) := by
    have := Go.Lib.run_convert_bytes_const (P := Tryd.prog) (w.alloc (.cells #[.int .i64 4, .slice ao n cap, .int .i64 a, .int .i64 b] 26)) 22 5 #[.int .u8 119, .int .u8 101, .int .u8 105, .int .u8 103, .int .u8 104] 5 5 Tryd.underlying22 Tryd.underlying5
    rw [World.size_alloc] at this
    exact this
  go_enter Tryd.func33, Tryd.ntmps33
  go_wp2
  clear hcv
  have hb0 := brow_lit (w.alloc (.cells #[.int .i64 4, .slice ao n cap, .int .i64 a, .int .i64 b] 26))
  go_loopw [3, 4] (fun b9 i wr => ∃ k : Nat, k ≤ n ∧ i = .int .i64 k ∧ ∃ g cap' l, b9 = .slice (some ⟨g, 0, none⟩) (List.length l) cap' ∧ (1 ≤ l.length ∧ l.length ≤ 100 * (k + 1)) ∧ w.heap.size + 1 ≤ g ∧ BRow wr g cap' l ∧ Below (w.heap.size + 1) (w.alloc (.cells #[.int .i64 4, .slice ao n cap, .int .i64 a, .int .i64 b] 26)) wr) (fun _ i _ => n - (intOf i).toNat)
  case atStart => exact ⟨0, Nat.zero_le _, rfl, w.heap.size + 1, 5, txWeigh, rfl, ⟨by decide, by decide⟩, Nat.le_refl _, by have h9 := hb0; rw [World.size_alloc] at h9; exact h9, (Below.refl _ _).alloc (by simp) _⟩
  case round =>
    clear hb0
    obtain ⟨k, hk, rfl, g, cap', l, rfl, hll, hg, hb, hbel⟩ := hrel
    obtain ⟨g0, g1, _, _, hsz⟩ := box4 hbel
    by_cases hlt : k < n
    rotate_left
    · have e : k = n := by omega
      subst e
      have hcv := conv_txt hb
      go_wp2
      go_ret
      exact ⟨l, rfl, by omega, unbox hbel (by omega)⟩
    obtain ⟨bb, o, hao, c0, c1, c2⟩ := ((hr.alloc _).below hbel (by simp)) k hlt
    subst hao
    go_wp2
    have hgl : g < wr.heap.size := hb.lt (by omega)
    have hA := (hbel.alloc (by omega) (.cells #[.int .i64 (F k), .int .i64 (T k), .int .i64 (G k)] 50)).drew
    have hbA := (hb.below ((Below.refl wr.heap.size wr).alloc (Nat.le_refl _) (.cells #[.int .i64 (F k), .int .i64 (T k), .int .i64 (G k)] 50)).drew (Nat.le_refl _))
    have Q1 : ∀ a : List UInt8, (1 ≤ a.length ∧ a.length ≤ 30) → ¬ 9223372036854775807 < 1 + a.length := fun a h => by omega
    have Q2 : ∀ a : List UInt8, (1 ≤ a.length ∧ a.length ≤ 30) → ¬ 9223372036854775807 < 1 + a.length + 1 := fun a h => by omega
    have Q3 : ∀ a b : List UInt8, (1 ≤ a.length ∧ a.length ≤ 30) → (1 ≤ b.length ∧ b.length ≤ 30) → ¬ 9223372036854775807 < 1 + a.length + 1 + b.length := fun a b h h' => by omega
    have Q4 : ∀ a b : List UInt8, (1 ≤ a.length ∧ a.length ≤ 30) → (1 ≤ b.length ∧ b.length ≤ 30) → ¬ 9223372036854775807 < 1 + a.length + 1 + b.length + 1 := fun a b h h' => by omega
    have Q5 : ∀ a b c : List UInt8, (1 ≤ a.length ∧ a.length ≤ 30) → (1 ≤ b.length ∧ b.length ≤ 30) → (1 ≤ c.length ∧ c.length ≤ 30) → ¬ 9223372036854775807 < 1 + a.length + 1 + b.length + 1 + c.length := fun a b c h h' h2 => by omega
    have HS1 : w.heap.size + 1 ≤ (w.alloc (.cells #[.int .i64 4, .slice (some ⟨bb, o, none⟩) n cap, .int .i64 a, .int .i64 b] 26)).heap.size := by simp
    have Q6 : ∀ a b c : List UInt8, (1 ≤ a.length ∧ a.length ≤ 30) → (1 ≤ b.length ∧ b.length ≤ 30) → (1 ≤ c.length ∧ c.length ≤ 30) → l.length + (arcL a b c).length ≤ 1000000000000 := fun a b c h h' h2 => by have := arcL_len a b c; omega
    go_region_held3 (fun w' => w'.cell? ⟨wr.heap.size, 0, none⟩ = some (.int .i64 (F k)) ∧ w'.cell? ⟨wr.heap.size, 1, none⟩ = some (.int .i64 (T k)) ∧ w'.cell? ⟨wr.heap.size, 2, none⟩ = some (.int .i64 (G k)))
      (first | (go_split_ands; refine ⟨?_, ?_, ?_⟩ <;> exact keep_cell ‹_› (Nat.le_refl _) (by assumption)) | (go_split_ands; refine ⟨?_, ?_, ?_⟩ <;> exact hgr5.cell (by assumption) (by simp; omega)) | go_keep)
      (first | (go_at_call_of 64 (Value.int IntKind.i64 (F k)); refine (l1Int_sl (F k) _).mono ?_; rintro e w2 ⟨lF, rfl, hlF, hb2⟩; replace hbA := hbA.below hb2 (Nat.le_refl _); replace hA := below_next hA HS1 hb2; have q1 := Q1 lF hlF; have q2 := Q2 lF hlF) | (go_at_call_of 64 (Value.int IntKind.i64 (T k)); refine (l1Int_sl (T k) _).mono ?_; rintro e w2 ⟨lT, rfl, hlT, hb2⟩; replace hbA := hbA.below hb2 (Nat.le_refl _); replace hA := below_next hA HS1 hb2; have q3 := Q3 lF lT hlF hlT; have q4 := Q4 lF lT hlF hlT) | (go_at_call_of 64 (Value.int IntKind.i64 (G k)); refine (l1Int_sl (G k) _).mono ?_; rintro e w2 ⟨lG, rfl, hlG, hb2⟩; replace hbA := hbA.below hb2 (Nat.le_refl _); replace hA := below_next hA HS1 hb2; have q5 := Q5 lF lT lG hlF hlT hlG) | (refine step_append_txt ?_ (.tmp 35) (.tmp 49) ?_ g cap' l (arcL lF lT lG) ?_ ?_ hbA ?_ (w.heap.size + 1) hg ?_ ?_; rfl; rfl; rfl; exact congrArg Value.string (arc_add _ _ _); exact Q6 lF lT lG hlF hlT hlG; (have := hA.size; simp at this; omega); intro g' cap'' w5 hg' hbB hb5 hgr5))
    go_wp2
    go_roundw
    case rel => exact ⟨k + 1, by omega, by go_num, g', cap'', l ++ arcL lF lT lG, by simp, ⟨by simp; omega, by have := arcL_len lF lT lG; simp; omega⟩, hg', hbB, hA.trans hb5⟩
    case measure => simp [intOf]; omega



theorem l9Show_some (K : Int) (ao : Option Addr) (n cap : Nat) (a b : Int) (F T G : Nat → Int) (hn : n ≤ 300) (hK : K = 0 ∨ K = 1 ∨ K = 2 ∨ K = 3 ∨ K = 4) (w : World) (hr : Row w ao n F T G) :
    Calls Tryd.prog 33 #[.agg #[.int .i64 K, .slice ao n cap, .int .i64 a, .int .i64 b]] w fun e w' => ∃ l : List UInt8, e = .returned (txt l) ∧ l.length ≤ 40000 ∧ Below w.heap.size w w' := by
  rcases hK with rfl | rfl | rfl | rfl | rfl
  · exact l9Show_weigh_0 ao n cap a b F T G hn w hr
  · exact (l9Show_none ao n cap a b w).mono fun e w' h => ⟨txNone, h.1, by decide, h.2⟩
  · exact l9Show_weigh_2 ao n cap a b F T G hn w hr
  · exact l9Show_ask_some ao n cap a b w
  · exact l9Show_weigh_4 ao n cap a b F T G hn w hr

end Go.Proofs.YtcmeppjfjledfacDoor

/-
  The document's draws of a command and of a command's text.
-/
set_option linter.unusedVariables false
set_option linter.unusedSimpArgs false
namespace Go.Proofs.YtcmeppjfjledfacDoor
open Go.RowKit
attribute [local go_sem ↓] Go.wp_at_zero Go.wp_at_succ

set_option maxHeartbeats 1000000 in
theorem drawReadCommand_any (ao : Option Addr) (n cap : Nat) (hn : n ≤ 4096) (w : World) (hr : ByRow w w.heap.size ao n) :
    Calls Tryd.prog 12 #[.slice ao n cap] w fun e w' => ∃ l : List UInt8, e = .returned (txt l) ∧ l.length ≤ 60000 ∧ Below w.heap.size w w' := by
  go_enter Tryd.func12, Tryd.ntmps12
  go_wp2_with fail
  refine (l1New_any ao n cap hn _ hr).mono ?_
  rintro e w1 ⟨c, rfl, hC1, hb1⟩
  have hcg := hC1.ge
  have hcl1 := hC1.lt
  go_wp2_with fail
  refine (l1Draw_any _ c ao n cap _ hC1).mono ?_
  rintro e w2 ⟨p, go, k, gc, rfl, hpp, hk, hO2, hC2, hg2⟩
  have hA2 : Below w.heap.size w w2 := hb1.trans (gr_below hg2 hcg hb1.size)
  go_wp2_with fail
  refine (l8DrawAny_any _ c ao n cap _ go k gc hk _ hC2 (hO2.from (by omega))).mono ?_
  rintro e w2 ⟨K, xo, m, xc, a, b, rfl, hK, hm, hO2, hC2, hg2⟩
  replace hA2 : Below w.heap.size w w2 := hA2.trans (gr_below hg2 hcg hA2.size)
  obtain ⟨F, T, G, hrow, _⟩ := hO2.row
  go_wp2_with fail
  refine (l9Show_some K xo m xc a b F T G (by omega) hK _ hrow).mono ?_
  rintro e w3 ⟨l, rfl, hl, hb3⟩
  have hA3 := below_next hA2 (Nat.le_refl _) hb3
  have hC3 := hC2.next hb3
  clear hO2 hC2 hrow hb3 hg2
  go_wp2_with fail
  refine (l1Once_any _ c ao n cap 2 (by omega) (by omega) _ hC3).mono ?_
  rintro e w4 ⟨b, rfl, hC4, hg4⟩
  have hA4 : Below w.heap.size w w4 := hA3.trans (gr_below hg4 hcg hA3.size)
  cases b
  · go_wp2
    go_ret
    exact ⟨l, rfl, by omega, hA4⟩
  · go_wp2_with fail
    refine (l1Bend_some { data := #[48, 49, 50, 57, 32, 45, 97, 107, 110, 119] } ⟨by decide, by decide⟩ _ c ao n cap l (by omega) _ hC4).mono ?_
    rintro e w5 ⟨l5, rfl, hl5, hC5, hg5⟩
    have hA5 : Below w.heap.size w w5 := hA4.trans (gr_below hg5 hcg hA4.size)
    go_wp2
    go_ret
    exact ⟨l5, rfl, by omega, hA5⟩

/-- What was drawn lies behind what stood. -/
theorem cmd_out {w W : World} {b : Nat} (hb : w.heap.size ≤ b) (v0 v1 v2 v3 : Value) (h : Below w.heap.size w W) : Below w.heap.size w ((((W.setCell ⟨b, 0, none⟩ v0).setCell ⟨b, 1, none⟩ v1).setCell ⟨b, 2, none⟩ v2).setCell ⟨b, 3, none⟩ v3) :=
  h.trans (st4_belowR W hb v0 v1 v2 v3)

set_option maxHeartbeats 1000000 in
theorem drawCommandOk_any (ao : Option Addr) (n cap : Nat) (hn : n ≤ 4096) (w : World) (hr : ByRow w w.heap.size ao n) :
    Calls Tryd.prog 29 #[.slice ao n cap] w fun e w' => ∃ (K : Int) (xo : Option Addr) (m xc : Nat) (a b : Int), e = .returned (.agg #[.int .i64 K, .slice xo m xc, .int .i64 a, .int .i64 b]) ∧ m ≤ 300 ∧ AOwnE w' (w.heap.size + 1) xo m xc ∧ Below w.heap.size w w' := by
  have hal0 := (Below.refl w.heap.size w).alloc (Nat.le_refl _) (.cells #[.int .i64 0, .slice none 0 0, .int .i64 0, .int .i64 0] 26)
  have hr0 : ByRow (w.alloc (.cells #[.int .i64 0, .slice none 0 0, .int .i64 0, .int .i64 0] 26)) (w.alloc (.cells #[.int .i64 0, .slice none 0 0, .int .i64 0, .int .i64 0] 26)).heap.size ao n := fun k hk => by
    obtain ⟨b, o, v, e, hb, hc⟩ := (hr.below hal0 (Nat.le_refl _)) k hk
    exact ⟨b, o, v, e, by simp; omega, hc⟩
  go_enter Tryd.func29, Tryd.ntmps29
  go_wp2_with fail
  refine (l1New_any ao n cap hn _ hr0).mono ?_
  rintro e w1 ⟨c, rfl, hC1, hb1⟩
  have hcg := hC1.ge
  have hcl1 := hC1.lt
  go_wp2_with fail
  refine (l1Draw_any _ c ao n cap _ hC1).mono ?_
  rintro e w2 ⟨p, go, k, gc, rfl, hpp, hk, hO2, hC2, hg2⟩
  have hB2 := hb1.trans (gr_below hg2 hcg hb1.size)
  go_wp2_with fail
  refine (l8DrawAny_any _ c ao n cap _ go k gc hk _ hC2 (hO2.from (by omega))).mono ?_
  rintro e w3 ⟨K, xo, m, xc, a, b, rfl, hK, hm, hO3, hC3, hg3⟩
  have hB3 := hB2.trans (gr_below hg3 hcg hB2.size)
  have v3 := (c4_new w (.int .i64 0) (.slice none 0 0) (.int .i64 0) (.int .i64 0) 26).below hB3 (by simp)
  have hA3 : Below w.heap.size w w3 := hal0.trans (hB3.mono (by simp))
  have r0 := v3.cell (j := 0) (by omega)
  have r1 := v3.cell (j := 1) (by omega)
  have r2 := v3.cell (j := 2) (by omega)
  have r3 := v3.cell (j := 3) (by omega)
  have y0 := v3.frozen 0
  have y1 := v3.frozen 1
  have y2 := v3.frozen 2
  have y3 := v3.frozen 3
  have hsz : w.heap.size + 1 ≤ w2.heap.size := by have := hB2.size; simpa using this
  have hO5 := ((((hO3.from hsz).grown (gr_setCell _ w.heap.size 0 (.int .i64 K)) (by omega)).grown (gr_setCell _ w.heap.size 1 (.slice xo m xc)) (by omega)).grown (gr_setCell _ w.heap.size 2 (.int .i64 a)) (by omega)).grown (gr_setCell _ w.heap.size 3 (.int .i64 b)) (by omega)
  obtain ⟨s0, s1, s2, s3⟩ := st4 v3 (.int .i64 K) (.slice xo m xc) (.int .i64 a) (.int .i64 b)
  go_wp2
  exact bodyPost_ret (v := .agg #[.int .i64 K, .slice xo m xc, .int .i64 a, .int .i64 b]) (by simp [results, Tryd.results29, go_sem, s0, s1, s2, s3]) rfl ⟨_, _, _, _, _, _, rfl, by omega, hO5, cmd_out (Nat.le_refl _) _ _ _ _ hA3⟩

set_option maxHeartbeats 1000000 in
theorem drawShowCommand_any (ao : Option Addr) (n cap : Nat) (hn : n ≤ 4096) (w : World) (hr : ByRow w w.heap.size ao n) :
    Calls Tryd.prog 6 #[.slice ao n cap] w fun e w' => ∃ (K : Int) (xo : Option Addr) (m xc : Nat) (a b : Int), e = .returned (.agg #[.int .i64 K, .slice xo m xc, .int .i64 a, .int .i64 b]) ∧ m ≤ 300 ∧ AOwnE w' (w.heap.size + 1) xo m xc ∧ Below w.heap.size w w' := by
  have hal0 := (Below.refl w.heap.size w).alloc (Nat.le_refl _) (.cells #[.int .i64 0, .slice none 0 0, .int .i64 0, .int .i64 0] 26)
  have hr0 : ByRow (w.alloc (.cells #[.int .i64 0, .slice none 0 0, .int .i64 0, .int .i64 0] 26)) (w.alloc (.cells #[.int .i64 0, .slice none 0 0, .int .i64 0, .int .i64 0] 26)).heap.size ao n := fun k hk => by
    obtain ⟨b, o, v, e, hb, hc⟩ := (hr.below hal0 (Nat.le_refl _)) k hk
    exact ⟨b, o, v, e, by simp; omega, hc⟩
  go_enter Tryd.func6, Tryd.ntmps6
  go_wp2_with fail
  refine (drawCommandOk_any ao n cap hn _ hr0).mono ?_
  rintro e w3 ⟨K, xo, m, xc, a, b, rfl, hm, hO3, hB3⟩
  have v3 := (c4_new w (.int .i64 0) (.slice none 0 0) (.int .i64 0) (.int .i64 0) 26).below hB3 (by simp)
  have hA3 : Below w.heap.size w w3 := hal0.trans (hB3.mono (by simp))
  have r0 := v3.cell (j := 0) (by omega)
  have r1 := v3.cell (j := 1) (by omega)
  have r2 := v3.cell (j := 2) (by omega)
  have r3 := v3.cell (j := 3) (by omega)
  have y0 := v3.frozen 0
  have y1 := v3.frozen 1
  have y2 := v3.frozen 2
  have y3 := v3.frozen 3
  have hO5 := ((((hO3.from (base' := w.heap.size + 1) (by simp)).grown (gr_setCell _ w.heap.size 0 (.int .i64 K)) (by omega)).grown (gr_setCell _ w.heap.size 1 (.slice xo m xc)) (by omega)).grown (gr_setCell _ w.heap.size 2 (.int .i64 a)) (by omega)).grown (gr_setCell _ w.heap.size 3 (.int .i64 b)) (by omega)
  obtain ⟨s0, s1, s2, s3⟩ := st4 v3 (.int .i64 K) (.slice xo m xc) (.int .i64 a) (.int .i64 b)
  go_wp2
  exact bodyPost_ret (v := .agg #[.int .i64 K, .slice xo m xc, .int .i64 a, .int .i64 b]) (by simp [results, Tryd.results6, go_sem, s0, s1, s2, s3]) rfl ⟨_, _, _, _, _, _, rfl, by omega, hO5, cmd_out (Nat.le_refl _) _ _ _ _ hA3⟩

end Go.Proofs.YtcmeppjfjledfacDoor

/-
  The laws' own comparison of arcs.
-/
set_option linter.unusedVariables false
set_option linter.unusedSimpArgs false
namespace Go.Proofs.YtcmeppjfjledfacDoor
open Go.RowKit
attribute [local go_sem ↓] Go.wp_at_zero Go.wp_at_succ

set_option maxHeartbeats 800000 in
theorem likeArcs_same (ao ao' : Option Addr) (n cap cap' : Nat) (F T G : Nat → Int) (hn : n ≤ 1048576) (w : World) (hr : Row w ao n F T G) (hr' : Row w ao' n F T G) :
    Calls Tryd.prog 38 #[.slice ao n cap, .slice ao' n cap'] w fun e w' => e = .returned (.bool true) ∧ Below w.heap.size w w' := by
  go_enter Tryd.func38, Tryd.ntmps38
  go_wp2
  go_loopw [5] (fun i wr => ∃ k : Nat, k ≤ n ∧ i = .int .i64 k ∧ Below w.heap.size w wr) (fun i _ => n - (intOf i).toNat)
  case atStart => exact ⟨0, Nat.zero_le _, rfl, Below.refl _ _⟩
  case round =>
    obtain ⟨k, hk, rfl, hbel⟩ := hrel
    by_cases hlt : k < n
    rotate_left
    · have hkn : k = n := by omega
      subst hkn
      go_wp2
      go_ret
      exact ⟨rfl, hbel⟩
    obtain ⟨b, o, hao, c0, c1, c2⟩ := (hr.below hbel (Nat.le_refl _)) k hlt
    obtain ⟨b', o', hao', d0, d1, d2⟩ := (hr'.below hbel (Nat.le_refl _)) k hlt
    subst hao
    subst hao'
    have hk1 : (0 : Int) ≤ (k : Int) := by omega
    have hk2 : (k : Int) < (n : Int) := by omega
    go_wp2
    go_quiet (fail)
    go_wp2
    go_roundw
    case rel => exact ⟨k + 1, by omega, by go_num, below_drewN hbel _⟩
    case measure => simp [intOf]; omega

end Go.Proofs.YtcmeppjfjledfacDoor

/-
  The laws' own comparison of commands.
-/
set_option linter.unusedVariables false
set_option linter.unusedSimpArgs false
namespace Go.Proofs.YtcmeppjfjledfacDoor
open Go.RowKit
attribute [local go_sem ↓] Go.wp_at_zero Go.wp_at_succ

set_option maxHeartbeats 1000000 in
theorem likeCommand_same (K : Int) (ao ao' : Option Addr) (n cap cap' : Nat) (F T G : Nat → Int) (a b : Int) (hn : n ≤ 1048576) (w : World) (hr : Row w ao n F T G) (hr' : Row w ao' n F T G) :
    Calls Tryd.prog 11 #[.agg #[.int .i64 K, .slice ao n cap, .int .i64 a, .int .i64 b], .agg #[.int .i64 K, .slice ao' n cap', .int .i64 a, .int .i64 b]] w fun e w' => e = .returned (.bool true) ∧ Below w.heap.size w w' := by
  go_enter Tryd.func11, Tryd.ntmps11
  go_wp2_with fail
  have hA : Below w.heap.size w ((w.alloc (.cells #[.int .i64 K, .slice ao n cap, .int .i64 a, .int .i64 b] 26)).alloc (.cells #[.int .i64 K, .slice ao' n cap', .int .i64 a, .int .i64 b] 26)) := ((Below.refl _ _).alloc (Nat.le_refl _) _).alloc (by simp) _
  have x2 : ((w.alloc (.cells #[.int .i64 K, .slice ao n cap, .int .i64 a, .int .i64 b] 26)).alloc (.cells #[.int .i64 K, .slice ao' n cap', .int .i64 a, .int .i64 b] 26)).cell? ⟨w.heap.size, 2, none⟩ = some (.int .i64 a) := by simp [go_sem]
  have x3 : ((w.alloc (.cells #[.int .i64 K, .slice ao n cap, .int .i64 a, .int .i64 b] 26)).alloc (.cells #[.int .i64 K, .slice ao' n cap', .int .i64 a, .int .i64 b] 26)).cell? ⟨w.heap.size, 3, none⟩ = some (.int .i64 b) := by simp [go_sem]
  have y2 : ((w.alloc (.cells #[.int .i64 K, .slice ao n cap, .int .i64 a, .int .i64 b] 26)).alloc (.cells #[.int .i64 K, .slice ao' n cap', .int .i64 a, .int .i64 b] 26)).cell? ⟨w.heap.size + 1, 2, none⟩ = some (.int .i64 a) := by simp [go_sem]
  have y3 : ((w.alloc (.cells #[.int .i64 K, .slice ao n cap, .int .i64 a, .int .i64 b] 26)).alloc (.cells #[.int .i64 K, .slice ao' n cap', .int .i64 a, .int .i64 b] 26)).cell? ⟨w.heap.size + 1, 3, none⟩ = some (.int .i64 b) := by simp [go_sem]
  generalize ((w.alloc (.cells #[.int .i64 K, .slice ao n cap, .int .i64 a, .int .i64 b] 26)).alloc (.cells #[.int .i64 K, .slice ao' n cap', .int .i64 a, .int .i64 b] 26)) = W at hA x2 x3 y2 y3 ⊢
  refine (likeArcs_same ao ao' n cap cap' F T G hn _ (hr.below hA (Nat.le_refl _)) (hr'.below hA (Nat.le_refl _))).mono ?_
  rintro e w1 ⟨rfl, hb1⟩
  have z2 := keep_cell hb1 (Nat.le_refl _) x2
  have z3 := keep_cell hb1 (Nat.le_refl _) x3
  have v2 := keep_cell hb1 (Nat.le_refl _) y2
  have v3 := keep_cell hb1 (Nat.le_refl _) y3
  go_wp2
  go_ret
  exact ⟨rfl, below_next hA (Nat.le_refl _) hb1⟩

end Go.Proofs.YtcmeppjfjledfacDoor

/-
  A list of numbers that is answered, in new memory.
-/
set_option linter.unusedVariables false
set_option linter.unusedSimpArgs false
namespace Go.Proofs.YtcmeppjfjledfacDoor
open Go.RowKit

/-- A list that is answered: of the call's own. -/
def Ans (w w' : World) (e : Ending) (m : Nat) (D : Nat → Int) : Prop := ∃ ao cap, e = .returned (.slice ao m cap) ∧ (0 < m → ∃ g, ao = some ⟨g, 0, none⟩ ∧ w.heap.size ≤ g ∧ IHas w' g m D) ∧ Below w.heap.size w w'

theorem ans_of {w w' : World} {e : Ending} {m m' : Nat} {D : Nat → Int} (h : m = m') (H : Ans w w' e m' D) : Ans w w' e m D := by rw [h]; exact H

end Go.Proofs.YtcmeppjfjledfacDoor

/-
  What the laws over drawn inputs call: their helpers, and the bytes that came in.
-/
set_option linter.unusedVariables false
set_option linter.unusedSimpArgs false
namespace Go.Proofs.YtcmeppjfjledfacDoor
open Go.ChangeShapes Go.WideShapes Go.ChangeAt Go.RowKit Go.Deep Go.Joins
attribute [local go_sem ↓] Go.wp_at_zero Go.wp_at_succ

theorem big_any (ao : Option Addr) (n cap : Nat) (hn : n ≤ 9223372036854775807) (w : World) : Calls Tryd.prog 5 #[.slice ao n cap] w fun e w' => e = .returned (.bool (decide (4096 < n))) ∧ w' = w := by
  by_cases h : 4096 < n
  · have h' : 4096 < (n : Int) := by omega
    go_enter Tryd.func5, Tryd.ntmps5
    go_wp2
    go_ret
    exact ⟨ret_bool (by simp [h]), rfl⟩
  · have h' : ¬ 4096 < (n : Int) := by omega
    go_enter Tryd.func5, Tryd.ntmps5
    go_wp2
    go_ret
    exact ⟨ret_bool (by simp [h]), rfl⟩

set_option maxRecDepth 100000 in
theorem open_bytes {H : Type} {enc : TypeId × Value → H} {w : World} {base : Nat} {spare : Nat → Bool} {held : Bool} {fuel : Nat} {cs : List Value} {x : DataW H × List MemPlace}
    (h : DataW.trod enc Tryd.prog w base spare held fuel 22 cs = some x) :
    ∃ (ao : Option Addr) (n cap : Nat), cs = [.slice ao n cap] ∧ n ≤ maxLen ∧ ByRow w w.heap.size ao n := by
  rcases open_slice Tryd.underlying22 h with ⟨rfl, _⟩ | ⟨a, len, cap, m, n, D, Pl, rfl, hb, hl, hm, hmm, _, hx⟩
  · exact ⟨none, 0, 0, rfl, Nat.zero_le _, fun k hk => by omega⟩
  have hlm : len ≤ m := by rw [hmm]; split <;> omega
  have cells8 : Tryd.prog.cellsOf 5 = 1 := by kernel_rfl
  have each : ∀ i, i < len → ∃ q : Int, w.cell? (a.add i) = some (.int .u8 q) ∧ (Lit.int .u8 q).wf = true := by
    intro i hi
    obtain ⟨cs', h1, h2⟩ := hx i (by omega)
    rw [cells8] at h1
    obtain ⟨_, hlen, hcell⟩ := World.cells?_some h1
    match cs', hlen with
    | [v0], _ =>
      obtain ⟨q0, r0, _, f0⟩ := DataW.trod_int Tryd.underlying5 h2
      have e0 := hcell 0 (by omega)
      rw [add_add] at e0
      simp at r0
      subst r0
      exact ⟨q0, by simpa using e0, f0⟩
  refine ⟨some a, len, cap, rfl, by omega, fun k hk => ?_⟩
  obtain ⟨q, hq, hwf⟩ := each k hk
  obtain ⟨b, o, spot⟩ := a
  have hspot : spot = none := by
    obtain ⟨_, hq0, _⟩ := each 0 (by omega)
    have := World.cell?_spot hq0
    simpa [Addr.add] using this
  subst hspot
  rw [Addr.add_mid] at hq
  have h8 : 0 ≤ q ∧ q ≤ 255 := by
    have h1 : IntKind.min .u8 = 0 := by decide
    have h2 : IntKind.max .u8 = 255 := by decide
    simp only [Lit.wf, h1, h2, Bool.and_eq_true, decide_eq_true_eq] at hwf
    exact hwf
  exact ⟨b, o, q, rfl, lt_of_cell hq, hq, h8.1, h8.2⟩

theorem ByRow.up {w W : World} {ao : Option Addr} {n : Nat} (h : ByRow w w.heap.size ao n) (hb : Below w.heap.size w W) : ByRow W W.heap.size ao n := fun k hk => by
  obtain ⟨b, o, v, e, hlt, hc, hv⟩ := (h.below hb (Nat.le_refl _)) k hk
  exact ⟨b, o, v, e, Nat.lt_of_lt_of_le hlt hb.size, hc, hv⟩
theorem ans_row {W w' : World} {ao : Option Addr} {m : Nat} {D : Nat → Int} (h : 0 < m → ∃ g, ao = some ⟨g, 0, none⟩ ∧ W.heap.size ≤ g ∧ IHas w' g m D) : IRow w' ao m D := fun k hk => by
  obtain ⟨g, e, _, hI⟩ := h (by omega)
  subst e
  exact hI.row k hk

end Go.Proofs.YtcmeppjfjledfacDoor
