/-
  Helpers: DrawCn, SvM, DrawF.
-/
import Derived.Test.YthmpliljffmmcaaGreatDoorPack1
import Derived.Test.YthmpliljffmmcaaGreatDoorPack28
import Derived.Test.YthmpliljffmmcaaGreatDoorPack27
set_option linter.unusedVariables false
set_option linter.unusedSimpArgs false
namespace Go.Proofs.YthmpliljffmmcaaGreatDoor
section
open Go.RowKit Go.Maps
attribute [local go_sem ↓] Go.wp_at_zero Go.wp_at_succ
def cmV (K : Int) (go : Option Addr) (k gc : Nat) (a b : Int) : Nat → Value := c4 (.int .i64 K) (.slice go k gc) (.int .i64 a) (.int .i64 b)
structure CSd (w : World) (base c : Nat) (ao : Option Addr) (n cap : Nat) (rb gb : Nat) (K : Int) (go : Option Addr) (k gc : Nat) (a b : Int) (W : World) : Prop where
  cur : CurAt W base c ao n cap
  box : VHas W gb 35 4 (cmV K go k gc a b)
  own : AOwnE W (rb + 1) go k gc
  ne : ∀ x, go = some x → x.block ≠ gb
  res : VHas W rb 35 4 (cmV 0 none 0 0 0 0)
  gr : w.grownBy W (some c)
theorem CSd.step {w : World} {base c : Nat} {ao : Option Addr} {n cap rb gb : Nat} {K : Int} {go : Option Addr} {k gc : Nat} {a b : Int} {W W' : World} (h : CSd w base c ao n cap rb gb K go k gc a b W) (hc : c < rb ∧ rb < gb) (hC : CurAt W' base c ao n cap) (hg : W.grownBy W' (some c)) : CSd w base c ao n cap rb gb K go k gc a b W' :=
  ⟨hC, h.box.grown hg (by simp; omega), h.own.grown hg (by omega), h.ne, h.res.grown hg (by simp; omega), h.gr.trans hg⟩
theorem CSd.next {w : World} {base c : Nat} {ao : Option Addr} {n cap rb gb : Nat} {K : Int} {go : Option Addr} {k gc : Nat} {a b : Int} {W W' : World} (h : CSd w base c ao n cap rb gb K go k gc a b W) (hb : Below W.heap.size W W') : CSd w base c ao n cap rb gb K go k gc a b W' :=
  ⟨h.cur.next hb, h.box.next hb, h.own.next hb, h.ne, h.res.next hb, h.gr.trans (below_grown hb)⟩
theorem CSd.row {w : World} {base c : Nat} {ao : Option Addr} {n cap rb gb : Nat} {K : Int} {go : Option Addr} {k gc : Nat} {a b : Int} {W : World} (h : CSd w base c ao n cap rb gb K go k gc a b W) {x : Nat} (e : (Value.slice go k gc).ownBlock = some x) : rb + 1 ≤ x ∧ x ≠ gb := by
  obtain ⟨a, ha, rfl⟩ := own_block e
  exact ⟨(h.own.at e).1, h.ne a ha⟩
theorem AOwnE.set {w : World} {base k gc gb j : Nat} {go : Option Addr} {v : Value} (h : AOwnE w base go k gc) (hne : ∀ x, go = some x → x.block ≠ gb) : AOwnE (w.setCell ⟨gb, j, none⟩ v) base go k gc := by
  obtain ⟨f, hw9, hl, h0 | ⟨g, cap', cur, hv, hb, hh, rest⟩⟩ := h
  · exact ⟨f, hw9, hl, .inl h0⟩
  · have hv' := hv
    simp at hv'
    have hng := hne _ hv'.1
    exact ⟨f, hw9, hl, .inr ⟨g, cap', cur, hv, hb, ((gr_setCell w gb j v).block g (Array.getElem?_eq_some_iff.1 hh).1 (by simp; exact hng)).trans hh, rest⟩⟩
theorem CSd.set0 {w : World} {base c : Nat} {ao : Option Addr} {n cap rb gb : Nat} {K : Int} {go : Option Addr} {k gc : Nat} {a b : Int} {W : World} (h : CSd w base c ao n cap rb gb K go k gc a b W) (hc : (c < rb ∧ rb < gb) ∧ w.heap.size ≤ rb) (v : Int) : CSd w base c ao n cap rb gb v go k gc a b (W.setCell ⟨gb, 0, none⟩ (.int .i64 v)) := by
  have hs := gr_setCell W gb 0 (.int .i64 v)
  have hge := h.cur.ge
  exact ⟨h.cur.grown hs (by omega) (by omega), (h.box.set 0 _).congr (fun j hj => by
    have : j = 0 ∨ j = 1 ∨ j = 2 ∨ j = 3 := by omega
    rcases this with rfl | rfl | rfl | rfl <;> rfl), h.own.set h.ne, h.ne, h.res.grown hs (by simp; omega), gr_far h.gr hs (fun x e => by cases e; exact Nat.le_refl _) (by omega)⟩
theorem CSd.set2 {w : World} {base c : Nat} {ao : Option Addr} {n cap rb gb : Nat} {K : Int} {go : Option Addr} {k gc : Nat} {a b : Int} {W : World} (h : CSd w base c ao n cap rb gb K go k gc a b W) (hc : (c < rb ∧ rb < gb) ∧ w.heap.size ≤ rb) (v : Int) : CSd w base c ao n cap rb gb K go k gc v b (W.setCell ⟨gb, 2, none⟩ (.int .i64 v)) := by
  have hs := gr_setCell W gb 2 (.int .i64 v)
  have hge := h.cur.ge
  exact ⟨h.cur.grown hs (by omega) (by omega), (h.box.set 2 _).congr (fun j hj => by
    have : j = 0 ∨ j = 1 ∨ j = 2 ∨ j = 3 := by omega
    rcases this with rfl | rfl | rfl | rfl <;> rfl), h.own.set h.ne, h.ne, h.res.grown hs (by simp; omega), gr_far h.gr hs (fun x e => by cases e; exact Nat.le_refl _) (by omega)⟩
theorem CSd.set3 {w : World} {base c : Nat} {ao : Option Addr} {n cap rb gb : Nat} {K : Int} {go : Option Addr} {k gc : Nat} {a b : Int} {W : World} (h : CSd w base c ao n cap rb gb K go k gc a b W) (hc : (c < rb ∧ rb < gb) ∧ w.heap.size ≤ rb) (v : Int) : CSd w base c ao n cap rb gb K go k gc a v (W.setCell ⟨gb, 3, none⟩ (.int .i64 v)) := by
  have hs := gr_setCell W gb 3 (.int .i64 v)
  have hge := h.cur.ge
  exact ⟨h.cur.grown hs (by omega) (by omega), (h.box.set 3 _).congr (fun j hj => by
    have : j = 0 ∨ j = 1 ∨ j = 2 ∨ j = 3 := by omega
    rcases this with rfl | rfl | rfl | rfl <;> rfl), h.own.set h.ne, h.ne, h.res.grown hs (by simp; omega), gr_far h.gr hs (fun x e => by cases e; exact Nat.le_refl _) (by omega)⟩
theorem CSd.arcs {w : World} {base c : Nat} {ao : Option Addr} {n cap rb gb : Nat} {K : Int} {go : Option Addr} {k gc : Nat} {a b : Int} {W : World} (h : CSd w base c ao n cap rb gb K go k gc a b W) (hc : (c < rb ∧ rb < gb) ∧ w.heap.size ≤ rb) {go' : Option Addr} {k' gc' : Nat} (hown : AOwnE W (rb + 1) go' k' gc') (hne : ∀ x, go' = some x → x.block ≠ gb) : CSd w base c ao n cap rb gb K go' k' gc' a b (W.setCell ⟨gb, 1, none⟩ (.slice go' k' gc')) := by
  have hs := gr_setCell W gb 1 (.slice go' k' gc')
  have hge := h.cur.ge
  exact ⟨h.cur.grown hs (by omega) (by omega), (h.box.set 1 _).congr (fun j hj => by
    have : j = 0 ∨ j = 1 ∨ j = 2 ∨ j = 3 := by omega
    rcases this with rfl | rfl | rfl | rfl <;> rfl), hown.set hne, hne, h.res.grown hs (by simp; omega), gr_far h.gr hs (fun x e => by cases e; exact Nat.le_refl _) (by omega)⟩
theorem CSd.appended {w : World} {base c : Nat} {ao : Option Addr} {n cap rb gb : Nat} {K : Int} {go : Option Addr} {k gc : Nat} {a b : Int} {W W' : World} (h : CSd w base c ao n cap rb gb K go k gc a b W) (hc : (c < rb ∧ rb < gb) ∧ w.heap.size ≤ rb) (hg : W.grownBy W' (Value.slice go k gc).ownBlock) {g' k' gc' : Nat} (hown : AOwnE W' (rb + 1) (some ⟨g', 0, none⟩) k' gc') (hat : (Value.slice go k gc).ownBlock = some g' ∨ g' = W.heap.size) :
    CSd w base c ao n cap rb gb K (some ⟨g', 0, none⟩) k' gc' a b (W'.setCell ⟨gb, 1, none⟩ (.slice (some ⟨g', 0, none⟩) k' gc')) := by
  have hr : ∀ g, (Value.slice go k gc).ownBlock = some g → rb + 1 ≤ g := fun g e => (h.row e).1
  have hgl := h.box.lt
  have hng : g' ≠ gb := by
    rcases hat with e | e
    · exact (h.row e).2
    · omega
  have hs := gr_setCell W' gb 1 (.slice (some ⟨g', 0, none⟩) k' gc')
  have hbx := h.box.grown hg (fun e => (h.row e.symm).2 rfl)
  have hge := h.cur.ge
  refine ⟨(h.cur.far hg hr (by omega)).grown hs (by omega) (by omega), (hbx.set 1 _).congr (fun j hj => ?_), hown.set (fun x e => by cases e; exact hng), fun x e => by cases e; exact hng, (h.res.grown hg (fun e => by have := hr rb e.symm; omega)).grown hs (by simp; omega), ?_⟩
  · have : j = 0 ∨ j = 1 ∨ j = 2 ∨ j = 3 := by omega
    rcases this with rfl | rfl | rfl | rfl <;> rfl
  · have h1 := gr_far h.gr hg hr (by omega)
    exact gr_far (row := some gb) h1 hs (fun g e => by cases e; exact Nat.le_refl _) (by omega)
theorem CSd.out {w : World} {base c : Nat} {ao : Option Addr} {n cap rb gb : Nat} {K : Int} {go : Option Addr} {k gc : Nat} {a b : Int} {W : World} (h : CSd w base c ao n cap rb gb K go k gc a b W) (hc : (c < rb ∧ rb < gb) ∧ w.heap.size ≤ rb) (v0 v1 v2 v3 : Value) :
    AOwnE ((((W.setCell ⟨rb, 0, none⟩ v0).setCell ⟨rb, 1, none⟩ v1).setCell ⟨rb, 2, none⟩ v2).setCell ⟨rb, 3, none⟩ v3) rb go k gc ∧ CurAt ((((W.setCell ⟨rb, 0, none⟩ v0).setCell ⟨rb, 1, none⟩ v1).setCell ⟨rb, 2, none⟩ v2).setCell ⟨rb, 3, none⟩ v3) base c ao n cap ∧ w.grownBy ((((W.setCell ⟨rb, 0, none⟩ v0).setCell ⟨rb, 1, none⟩ v1).setCell ⟨rb, 2, none⟩ v2).setCell ⟨rb, 3, none⟩ v3) (some c) := by
  have h1 := gr_setCell W rb 0 v0
  have h2 := gr_setCell (W.setCell ⟨rb, 0, none⟩ v0) rb 1 v1
  have h3 := gr_setCell ((W.setCell ⟨rb, 0, none⟩ v0).setCell ⟨rb, 1, none⟩ v1) rb 2 v2
  have h4 := gr_setCell (((W.setCell ⟨rb, 0, none⟩ v0).setCell ⟨rb, 1, none⟩ v1).setCell ⟨rb, 2, none⟩ v2) rb 3 v3
  have hge := h.cur.ge
  refine ⟨((((h.own.grown h1 (by omega)).grown h2 (by omega)).grown h3 (by omega)).grown h4 (by omega)).from (by omega), (((h.cur.grown h1 (by omega) (by omega)).grown h2 (by omega) (by omega)).grown h3 (by omega) (by omega)).grown h4 (by omega) (by omega), ?_⟩
  exact gr_far (gr_far (gr_far (gr_far h.gr h1 (fun g e => by cases e; exact Nat.le_refl _) hc.2) h2 (fun g e => by cases e; exact Nat.le_refl _) hc.2) h3 (fun g e => by cases e; exact Nat.le_refl _) hc.2) h4 (fun g e => by cases e; exact Nat.le_refl _) hc.2
theorem litK {W : World} {b : Nat} {t : TypeId} (h : W.heap[b]? = some (.cells #[.int .i64 0, .int .i64 4, .int .i64 1, .int .i64 2, .int .i64 3] t (0, 0))) {y : Nat} (hy : y < 5) : ∃ v, W.cell? ⟨b, y, none⟩ = some (.int .i64 v) ∧ (v = 0 ∨ v = 1 ∨ v = 2 ∨ v = 3 ∨ v = 4) := by
  have : y = 0 ∨ y = 1 ∨ y = 2 ∨ y = 3 ∨ y = 4 := by omega
  rcases this with rfl | rfl | rfl | rfl | rfl
  · exact ⟨0, by simp [World.cell?, h], by omega⟩
  · exact ⟨4, by simp [World.cell?, h], by omega⟩
  · exact ⟨1, by simp [World.cell?, h], by omega⟩
  · exact ⟨2, by simp [World.cell?, h], by omega⟩
  · exact ⟨3, by simp [World.cell?, h], by omega⟩
theorem litP {W : World} {b : Nat} {a0 a1 a2 a3 : Int} {t : TypeId} (h : W.heap[b]? = some (.cells #[.int .i64 a0, .int .i64 a1, .int .i64 a2, .int .i64 a3] t (0, 0))) {y : Nat} (hy : y < 4) : ∃ v, W.cell? ⟨b, y, none⟩ = some (.int .i64 v) := by
  have : y = 0 ∨ y = 1 ∨ y = 2 ∨ y = 3 := by omega
  rcases this with rfl | rfl | rfl | rfl <;> exact ⟨_, by simp [World.cell?, h]; rfl⟩
set_option maxRecDepth 100000 in
set_option maxHeartbeats 4000000 in
theorem l8DrawAny_any (base c : Nat) (ao : Option Addr) (n cap : Nat) (p : Int) (go : Option Addr) (k gc : Nat) (hk : k ≤ 200) (w : World) (hC : CurAt w base c ao n cap) (hO : ArcsE w c go k) :
    Calls Tryz.prog 21 #[.pointer (some ⟨c, 0, none⟩), .agg #[.int .i64 p, .slice go k gc]] w fun e w' => ∃ (K : Int) (xo : Option Addr) (m xc : Nat) (a b : Int), e = .returned (.agg #[.int .i64 K, .slice xo m xc, .int .i64 a, .int .i64 b]) ∧ (K = 0 ∨ K = 1 ∨ K = 2 ∨ K = 3 ∨ K = 4) ∧ m ≤ 300 ∧ AOwnE w' w.heap.size xo m xc ∧ CurAt w' base c ao n cap ∧ w.grownBy w' (some c) := by
  have hcl := hC.lt
  have hal : Below w.heap.size w ((w.alloc (.cells #[.int .i64 p, .slice go k gc] 26)).alloc (.cells #[.int .i64 0, .slice none 0 0, .int .i64 0, .int .i64 0] 35)) := ((Below.refl _ _).alloc nl _).alloc (by simp) _
  have v0 : VHas ((w.alloc (.cells #[.int .i64 p, .slice go k gc] 26)).alloc (.cells #[.int .i64 0, .slice none 0 0, .int .i64 0, .int .i64 0] 35)) (w.heap.size + 1) 35 4 (cmV 0 none 0 0 0 0) := by
    have := c4_new (w.alloc (.cells #[.int .i64 p, .slice go k gc] 26)) (.int .i64 0) (.slice none 0 0) (.int .i64 0) (.int .i64 0) 35
    rwa [World.size_alloc] at this
  have g0 : ((w.alloc (.cells #[.int .i64 p, .slice go k gc] 26)).alloc (.cells #[.int .i64 0, .slice none 0 0, .int .i64 0, .int .i64 0] 35)).cell? ⟨w.heap.size, 0, none⟩ = some (.int .i64 p) := by simp [go_sem]
  have g1 : ((w.alloc (.cells #[.int .i64 p, .slice go k gc] 26)).alloc (.cells #[.int .i64 0, .slice none 0 0, .int .i64 0, .int .i64 0] 35)).cell? ⟨w.heap.size, 1, none⟩ = some (.slice go k gc) := by simp [go_sem]
  have hgr0 : w.grownBy ((w.alloc (.cells #[.int .i64 p, .slice go k gc] 26)).alloc (.cells #[.int .i64 0, .slice none 0 0, .int .i64 0, .int .i64 0] 35)) (some c) := ⟨hal.os, hal.tape, hal.output, hal.size, fun k hk _ => hal.block k hk⟩
  have hC0 := hC.next hal
  have hO0 := hO.next hal
  have hrc : c < w.heap.size + 1 := by omega
  go_enter Tryz.func21, Tryz.ntmps21
  go_wp2_with fail
  refine (l8Draw_any base c ao n cap p go k gc hk _ hC0 hO0).mono ?_
  rintro e w1 ⟨K, xo, m, xc, a, b, rfl, hK, hm, hO1, hC1, hg1⟩
  have v1 := v0.grown hg1 (by simp; omega)
  have hs1 := v1.lt
  have hD1 : CSd w base c ao n cap (w.heap.size + 1) w1.heap.size K xo m xc a b (w1.alloc (.cells #[.int .i64 K, .slice xo m xc, .int .i64 a, .int .i64 b] 35)) :=
    ⟨hC1.next ((Below.refl _ w1).alloc nl _), c4_new w1 _ _ _ _ _, (hO1.next ((Below.refl _ w1).alloc nl _)).from (by simp), (fun x e => by subst e; have := (hO1.at rfl).2; omega), v1.alloc _, (hgr0.trans hg1).trans (World.grownBy_alloc w1 _ _)⟩
  clear hC1 hg1 hO1 v1 v0 hC0 hO0 hgr0 hal g0 g1 hO
  go_wp2_with fail
  refine (l1Once_any base c ao n cap 10 (by omega) (by omega) _ hD1.cur).mono ?_
  rintro e w2 ⟨bx, rfl, hC2, hg2⟩
  have hD2 := hD1.step ⟨hrc, hs1⟩ hC2 hg2
  clear hD1 hC2 hg2
  obtain ⟨gb, hgb⟩ : ∃ gb, w1.heap.size = gb := ⟨_, rfl⟩
  rw [hgb] at hD2 hs1 ⊢
  clear hgb
  cases bx
  · skip
    have r0 : w2.cell? ⟨w.heap.size + 1, 0, none⟩ = some (.int .i64 0) := hD2.res.cell (j := 0) (by omega)
    have r1 : w2.cell? ⟨w.heap.size + 1, 1, none⟩ = some (.slice none 0 0) := hD2.res.cell (j := 1) (by omega)
    have r2 : w2.cell? ⟨w.heap.size + 1, 2, none⟩ = some (.int .i64 0) := hD2.res.cell (j := 2) (by omega)
    have r3 : w2.cell? ⟨w.heap.size + 1, 3, none⟩ = some (.int .i64 0) := hD2.res.cell (j := 3) (by omega)
    obtain ⟨y0, y1, y2, y3⟩ := hD2.res.z4
    have b0 : w2.cell? ⟨gb, 0, none⟩ = some (.int .i64 K) := hD2.box.cell (j := 0) (by omega)
    have b1 : w2.cell? ⟨gb, 1, none⟩ = some (.slice xo m xc) := hD2.box.cell (j := 1) (by omega)
    have b2 : w2.cell? ⟨gb, 2, none⟩ = some (.int .i64 a) := hD2.box.cell (j := 2) (by omega)
    have b3 : w2.cell? ⟨gb, 3, none⟩ = some (.int .i64 b) := hD2.box.cell (j := 3) (by omega)
    obtain ⟨s0, s1, s2, s3⟩ := st4 hD2.res (.int .i64 K) (.slice xo m xc) (.int .i64 a) (.int .i64 b)
    obtain ⟨o1, o2, o3⟩ := hD2.out ⟨⟨hrc, hs1⟩, by omega⟩ (.int .i64 K) (.slice xo m xc) (.int .i64 a) (.int .i64 b)
    go_wp2
    exact bodyPost_ret (v := .agg #[.int .i64 K, .slice xo m xc, .int .i64 a, .int .i64 b]) (by simp [results, Tryz.results21, go_sem, s0, s1, s2, s3]) rfl ⟨_, _, _, _, _, _, rfl, by omega, by omega, o1.from (by omega), o2, o3⟩
  go_wp2_with fail
  refine (l1Below_any base c ao n cap 5 (by omega) (by omega) _ hD2.cur).mono ?_
  rintro e w3 ⟨x, rfl, hx, hC3, hg3⟩
  have hD3 := hD2.step ⟨hrc, hs1⟩ hC3 hg3
  clear hD2 hC3 hg3
  have hgl3 := hD3.box.lt
  have hx5 : x = 0 ∨ x = 1 ∨ x = 2 ∨ x = 3 ∨ x = 4 := by omega
  rcases hx5 with rfl | rfl | rfl | rfl | rfl
  · have hal := (Below.refl w3.heap.size w3).alloc nl (.cells #[.int .i64 0, .int .i64 4, .int .i64 1, .int .i64 2, .int .i64 3] 2)
    go_wp2_with fail
    refine (l1Below_any base c ao n cap 5 (by omega) (by omega) _ (hD3.next hal).cur).mono ?_
    rintro e w4 ⟨y, rfl, hy, hC4, hg4⟩
    have hD4 := (hD3.next hal).step ⟨hrc, hs1⟩ hC4 hg4
    obtain ⟨v, hv, hKv⟩ := litK ((hg4.block w3.heap.size (by simp) (by simp; omega)).trans (Go.Deep.blk_alloc_new _ _)) (show y < 5 by omega)
    clear hC4 hg4 hD3 hal
    have hy' : (y : Int) < 5 := by omega
    have c0 : w4.cell? ⟨gb, 0, none⟩ = some (.int .i64 K) := hD4.box.cell (j := 0) (by omega)
    have z0 := hD4.box.frozen 0
    have hD5 := hD4.set0 ⟨⟨hrc, hs1⟩, by omega⟩ v
    clear hD4
    have r0 : (w4.setCell ⟨gb, 0, none⟩ (.int .i64 v)).cell? ⟨w.heap.size + 1, 0, none⟩ = some (.int .i64 0) := hD5.res.cell (j := 0) (by omega)
    have r1 : (w4.setCell ⟨gb, 0, none⟩ (.int .i64 v)).cell? ⟨w.heap.size + 1, 1, none⟩ = some (.slice none 0 0) := hD5.res.cell (j := 1) (by omega)
    have r2 : (w4.setCell ⟨gb, 0, none⟩ (.int .i64 v)).cell? ⟨w.heap.size + 1, 2, none⟩ = some (.int .i64 0) := hD5.res.cell (j := 2) (by omega)
    have r3 : (w4.setCell ⟨gb, 0, none⟩ (.int .i64 v)).cell? ⟨w.heap.size + 1, 3, none⟩ = some (.int .i64 0) := hD5.res.cell (j := 3) (by omega)
    obtain ⟨y0, y1, y2, y3⟩ := hD5.res.z4
    have b0 : (w4.setCell ⟨gb, 0, none⟩ (.int .i64 v)).cell? ⟨gb, 0, none⟩ = some (.int .i64 v) := hD5.box.cell (j := 0) (by omega)
    have b1 : (w4.setCell ⟨gb, 0, none⟩ (.int .i64 v)).cell? ⟨gb, 1, none⟩ = some (.slice xo m xc) := hD5.box.cell (j := 1) (by omega)
    have b2 : (w4.setCell ⟨gb, 0, none⟩ (.int .i64 v)).cell? ⟨gb, 2, none⟩ = some (.int .i64 a) := hD5.box.cell (j := 2) (by omega)
    have b3 : (w4.setCell ⟨gb, 0, none⟩ (.int .i64 v)).cell? ⟨gb, 3, none⟩ = some (.int .i64 b) := hD5.box.cell (j := 3) (by omega)
    obtain ⟨s0, s1, s2, s3⟩ := st4 hD5.res (.int .i64 v) (.slice xo m xc) (.int .i64 a) (.int .i64 b)
    obtain ⟨o1, o2, o3⟩ := hD5.out ⟨⟨hrc, hs1⟩, by omega⟩ (.int .i64 v) (.slice xo m xc) (.int .i64 a) (.int .i64 b)
    go_wp2
    exact bodyPost_ret (v := .agg #[.int .i64 v, .slice xo m xc, .int .i64 a, .int .i64 b]) (by simp [results, Tryz.results21, go_sem, s0, s1, s2, s3]) rfl ⟨_, _, _, _, _, _, rfl, by omega, by omega, o1.from (by omega), o2, o3⟩
  · have hal := (Below.refl w3.heap.size w3).alloc nl (.cells #[.int .i64 (-1), .int .i64 23, .int .i64 24, .int .i64 1] 2)
    go_wp2_with fail
    refine (l1Below_any base c ao n cap 4 (by omega) (by omega) _ (hD3.next hal).cur).mono ?_
    rintro e w4 ⟨y, rfl, hy, hC4, hg4⟩
    have hD4 := (hD3.next hal).step ⟨hrc, hs1⟩ hC4 hg4
    obtain ⟨v, hv⟩ := litP ((hg4.block w3.heap.size (by simp) (by simp; omega)).trans (Go.Deep.blk_alloc_new _ _)) (show y < 4 by omega)
    clear hC4 hg4 hD3 hal
    have hy' : (y : Int) < 4 := by omega
    have c0 : w4.cell? ⟨gb, 2, none⟩ = some (.int .i64 a) := hD4.box.cell (j := 2) (by omega)
    have z0 := hD4.box.frozen 2
    have hD5 := hD4.set2 ⟨⟨hrc, hs1⟩, by omega⟩ v
    clear hD4
    have r0 : (w4.setCell ⟨gb, 2, none⟩ (.int .i64 v)).cell? ⟨w.heap.size + 1, 0, none⟩ = some (.int .i64 0) := hD5.res.cell (j := 0) (by omega)
    have r1 : (w4.setCell ⟨gb, 2, none⟩ (.int .i64 v)).cell? ⟨w.heap.size + 1, 1, none⟩ = some (.slice none 0 0) := hD5.res.cell (j := 1) (by omega)
    have r2 : (w4.setCell ⟨gb, 2, none⟩ (.int .i64 v)).cell? ⟨w.heap.size + 1, 2, none⟩ = some (.int .i64 0) := hD5.res.cell (j := 2) (by omega)
    have r3 : (w4.setCell ⟨gb, 2, none⟩ (.int .i64 v)).cell? ⟨w.heap.size + 1, 3, none⟩ = some (.int .i64 0) := hD5.res.cell (j := 3) (by omega)
    obtain ⟨y0, y1, y2, y3⟩ := hD5.res.z4
    have b0 : (w4.setCell ⟨gb, 2, none⟩ (.int .i64 v)).cell? ⟨gb, 0, none⟩ = some (.int .i64 K) := hD5.box.cell (j := 0) (by omega)
    have b1 : (w4.setCell ⟨gb, 2, none⟩ (.int .i64 v)).cell? ⟨gb, 1, none⟩ = some (.slice xo m xc) := hD5.box.cell (j := 1) (by omega)
    have b2 : (w4.setCell ⟨gb, 2, none⟩ (.int .i64 v)).cell? ⟨gb, 2, none⟩ = some (.int .i64 v) := hD5.box.cell (j := 2) (by omega)
    have b3 : (w4.setCell ⟨gb, 2, none⟩ (.int .i64 v)).cell? ⟨gb, 3, none⟩ = some (.int .i64 b) := hD5.box.cell (j := 3) (by omega)
    obtain ⟨s0, s1, s2, s3⟩ := st4 hD5.res (.int .i64 K) (.slice xo m xc) (.int .i64 v) (.int .i64 b)
    obtain ⟨o1, o2, o3⟩ := hD5.out ⟨⟨hrc, hs1⟩, by omega⟩ (.int .i64 K) (.slice xo m xc) (.int .i64 v) (.int .i64 b)
    go_wp2
    exact bodyPost_ret (v := .agg #[.int .i64 K, .slice xo m xc, .int .i64 v, .int .i64 b]) (by simp [results, Tryz.results21, go_sem, s0, s1, s2, s3]) rfl ⟨_, _, _, _, _, _, rfl, by omega, by omega, o1.from (by omega), o2, o3⟩
  · have hal := (Below.refl w3.heap.size w3).alloc nl (.cells #[.int .i64 (-1), .int .i64 23, .int .i64 24, .int .i64 1] 2)
    go_wp2_with fail
    refine (l1Below_any base c ao n cap 4 (by omega) (by omega) _ (hD3.next hal).cur).mono ?_
    rintro e w4 ⟨y, rfl, hy, hC4, hg4⟩
    have hD4 := (hD3.next hal).step ⟨hrc, hs1⟩ hC4 hg4
    obtain ⟨v, hv⟩ := litP ((hg4.block w3.heap.size (by simp) (by simp; omega)).trans (Go.Deep.blk_alloc_new _ _)) (show y < 4 by omega)
    clear hC4 hg4 hD3 hal
    have hy' : (y : Int) < 4 := by omega
    have c0 : w4.cell? ⟨gb, 3, none⟩ = some (.int .i64 b) := hD4.box.cell (j := 3) (by omega)
    have z0 := hD4.box.frozen 3
    have hD5 := hD4.set3 ⟨⟨hrc, hs1⟩, by omega⟩ v
    clear hD4
    have r0 : (w4.setCell ⟨gb, 3, none⟩ (.int .i64 v)).cell? ⟨w.heap.size + 1, 0, none⟩ = some (.int .i64 0) := hD5.res.cell (j := 0) (by omega)
    have r1 : (w4.setCell ⟨gb, 3, none⟩ (.int .i64 v)).cell? ⟨w.heap.size + 1, 1, none⟩ = some (.slice none 0 0) := hD5.res.cell (j := 1) (by omega)
    have r2 : (w4.setCell ⟨gb, 3, none⟩ (.int .i64 v)).cell? ⟨w.heap.size + 1, 2, none⟩ = some (.int .i64 0) := hD5.res.cell (j := 2) (by omega)
    have r3 : (w4.setCell ⟨gb, 3, none⟩ (.int .i64 v)).cell? ⟨w.heap.size + 1, 3, none⟩ = some (.int .i64 0) := hD5.res.cell (j := 3) (by omega)
    obtain ⟨y0, y1, y2, y3⟩ := hD5.res.z4
    have b0 : (w4.setCell ⟨gb, 3, none⟩ (.int .i64 v)).cell? ⟨gb, 0, none⟩ = some (.int .i64 K) := hD5.box.cell (j := 0) (by omega)
    have b1 : (w4.setCell ⟨gb, 3, none⟩ (.int .i64 v)).cell? ⟨gb, 1, none⟩ = some (.slice xo m xc) := hD5.box.cell (j := 1) (by omega)
    have b2 : (w4.setCell ⟨gb, 3, none⟩ (.int .i64 v)).cell? ⟨gb, 2, none⟩ = some (.int .i64 a) := hD5.box.cell (j := 2) (by omega)
    have b3 : (w4.setCell ⟨gb, 3, none⟩ (.int .i64 v)).cell? ⟨gb, 3, none⟩ = some (.int .i64 v) := hD5.box.cell (j := 3) (by omega)
    obtain ⟨s0, s1, s2, s3⟩ := st4 hD5.res (.int .i64 K) (.slice xo m xc) (.int .i64 a) (.int .i64 v)
    obtain ⟨o1, o2, o3⟩ := hD5.out ⟨⟨hrc, hs1⟩, by omega⟩ (.int .i64 K) (.slice xo m xc) (.int .i64 a) (.int .i64 v)
    go_wp2
    exact bodyPost_ret (v := .agg #[.int .i64 K, .slice xo m xc, .int .i64 a, .int .i64 v]) (by simp [results, Tryz.results21, go_sem, s0, s1, s2, s3]) rfl ⟨_, _, _, _, _, _, rfl, by omega, by omega, o1.from (by omega), o2, o3⟩
  · have b1 : w3.cell? ⟨gb, 1, none⟩ = some (.slice xo m xc) := hD3.box.cell (j := 1) (by omega)
    have hDc := hD3.next (Below.refl _ w3).drew
    clear hD3
    go_wp2
    go_region_law (first | (go_simp; go_at_call 49; refine (l1Below_any base c ao n cap 3 (by omega) (by omega) _ hDc.cur).mono ?_; rintro e w5 ⟨zz, rfl, hzb, hC5, hg5⟩; replace hDc := hDc.step ⟨hrc, hs1⟩ hC5 hg5; have b5 : w5.cell? ⟨gb, 1, none⟩ = some (.slice xo m xc) := hDc.box.cell (j := 1) (by omega); have hl5 := hDc.box.lt; clear hC5 hg5) | (refine step_append_arc ?_ (.tmp 41) (.tmp 49) ?_ (w.heap.size + 1 + 1) m xc xo ?_ (hDc.own.next ((Below.refl _ _).alloc nl _)) w5.heap.size ?_ _ _ _ (Go.Deep.blk_alloc_new _ _) (by omega) (by have := hDc.box.lt; simp; omega) (by first | exact wfA (by omega) | exact wf_wrap _) (by first | exact wfA (by omega) | exact wf_wrap _) (by first | exact wfA (by omega) | exact wf_wrap _) ?_; rfl; rfl; rfl; rfl; intro g' gc' w6 hown6 hgrow hr6; have hbx6 := (hDc.box.alloc _).grown hgrow (fun e => (hDc.row e.symm).2 rfl); have hb6 : w6.cell? ⟨gb, 1, none⟩ = some (.slice xo m xc) := hbx6.cell (j := 1) (by omega); have hz6 := hbx6.frozen 1))
    all_goals
      have R := (hDc.next ((Below.refl _ _).alloc nl _)).appended ⟨⟨hrc, hs1⟩, by omega⟩ hgrow hown6 hr6
      clear hbx6 hb6 hz6 hDc hgrow hown6 hr6
      have r0 : (w6.setCell ⟨gb, 1, none⟩ (.slice (some ⟨g', 0, none⟩) (m + 1) gc')).cell? ⟨w.heap.size + 1, 0, none⟩ = some (.int .i64 0) := R.res.cell (j := 0) (by omega)
      have r1 : (w6.setCell ⟨gb, 1, none⟩ (.slice (some ⟨g', 0, none⟩) (m + 1) gc')).cell? ⟨w.heap.size + 1, 1, none⟩ = some (.slice none 0 0) := R.res.cell (j := 1) (by omega)
      have r2 : (w6.setCell ⟨gb, 1, none⟩ (.slice (some ⟨g', 0, none⟩) (m + 1) gc')).cell? ⟨w.heap.size + 1, 2, none⟩ = some (.int .i64 0) := R.res.cell (j := 2) (by omega)
      have r3 : (w6.setCell ⟨gb, 1, none⟩ (.slice (some ⟨g', 0, none⟩) (m + 1) gc')).cell? ⟨w.heap.size + 1, 3, none⟩ = some (.int .i64 0) := R.res.cell (j := 3) (by omega)
      obtain ⟨y0, y1, y2, y3⟩ := R.res.z4
      have b0 : (w6.setCell ⟨gb, 1, none⟩ (.slice (some ⟨g', 0, none⟩) (m + 1) gc')).cell? ⟨gb, 0, none⟩ = some (.int .i64 K) := R.box.cell (j := 0) (by omega)
      have b1 : (w6.setCell ⟨gb, 1, none⟩ (.slice (some ⟨g', 0, none⟩) (m + 1) gc')).cell? ⟨gb, 1, none⟩ = some (.slice (some ⟨g', 0, none⟩) (m + 1) gc') := R.box.cell (j := 1) (by omega)
      have b2 : (w6.setCell ⟨gb, 1, none⟩ (.slice (some ⟨g', 0, none⟩) (m + 1) gc')).cell? ⟨gb, 2, none⟩ = some (.int .i64 a) := R.box.cell (j := 2) (by omega)
      have b3 : (w6.setCell ⟨gb, 1, none⟩ (.slice (some ⟨g', 0, none⟩) (m + 1) gc')).cell? ⟨gb, 3, none⟩ = some (.int .i64 b) := R.box.cell (j := 3) (by omega)
      obtain ⟨s0, s1, s2, s3⟩ := st4 R.res (.int .i64 K) (.slice (some ⟨g', 0, none⟩) (m + 1) gc') (.int .i64 a) (.int .i64 b)
      obtain ⟨o1, o2, o3⟩ := R.out ⟨⟨hrc, hs1⟩, by omega⟩ (.int .i64 K) (.slice (some ⟨g', 0, none⟩) (m + 1) gc') (.int .i64 a) (.int .i64 b)
      go_wp2
      exact bodyPost_ret (v := .agg #[.int .i64 K, .slice (some ⟨g', 0, none⟩) (m + 1) gc', .int .i64 a, .int .i64 b]) (by simp [results, Tryz.results21, go_sem, s0, s1, s2, s3]) rfl ⟨_, _, _, _, _, _, rfl, by omega, by omega, o1.from (by omega), o2, o3⟩
  · have c1 : w3.cell? ⟨gb, 1, none⟩ = some (.slice xo m xc) := hD3.box.cell (j := 1) (by omega)
    have z1 := hD3.box.frozen 1
    have hal := (Below.refl w3.heap.size w3).alloc nl (.cells #[] 67)
    have hD4 := (hD3.next hal).arcs ⟨⟨hrc, hs1⟩, by omega⟩ (aown_empty w3 (base := w.heap.size + 1 + 1) (by omega)) (fun x e => by cases e; exact Nat.ne_of_gt hgl3)
    rw [World.setCell_alloc_past _ _ _ _ hgl3] at hD4
    clear hD3
    go_wp2
    clear c1 z1 hal
    go_loopw [6] (fun x wr => ∃ (i gc : Nat) (go : Option Addr), i ≤ 11 ∧ x = .int .i64 i ∧ CSd w base c ao n cap (w.heap.size + 1) gb K go i gc a b wr) (fun x _ => 11 - (intOf x).toNat)
    case atStart => exact ⟨0, 0, _, by omega, rfl, hD4⟩
    case round =>
      clear hD4
      obtain ⟨i, gc, go, hi, rfl, hD⟩ := hrel
      go_wp2_with fail
      refine (l1Below_any base c ao n cap 2 (by omega) (by omega) _ hD.cur).mono ?_
      rintro e w5 ⟨x, rfl, hx2, hC5, hg5⟩
      have hD5 := hD.step ⟨hrc, hs1⟩ hC5 hg5
      clear hD hC5 hg5
      have hl5 := hD5.box.lt
      by_cases hlt : i < 10 + x
      rotate_left
      · have hlt' : ¬ (i : Int) < 10 + (x : Int) := by omega
        have r0 : w5.cell? ⟨w.heap.size + 1, 0, none⟩ = some (.int .i64 0) := hD5.res.cell (j := 0) (by omega)
        have r1 : w5.cell? ⟨w.heap.size + 1, 1, none⟩ = some (.slice none 0 0) := hD5.res.cell (j := 1) (by omega)
        have r2 : w5.cell? ⟨w.heap.size + 1, 2, none⟩ = some (.int .i64 0) := hD5.res.cell (j := 2) (by omega)
        have r3 : w5.cell? ⟨w.heap.size + 1, 3, none⟩ = some (.int .i64 0) := hD5.res.cell (j := 3) (by omega)
        obtain ⟨y0, y1, y2, y3⟩ := hD5.res.z4
        have b0 : w5.cell? ⟨gb, 0, none⟩ = some (.int .i64 K) := hD5.box.cell (j := 0) (by omega)
        have b1 : w5.cell? ⟨gb, 1, none⟩ = some (.slice go i gc) := hD5.box.cell (j := 1) (by omega)
        have b2 : w5.cell? ⟨gb, 2, none⟩ = some (.int .i64 a) := hD5.box.cell (j := 2) (by omega)
        have b3 : w5.cell? ⟨gb, 3, none⟩ = some (.int .i64 b) := hD5.box.cell (j := 3) (by omega)
        obtain ⟨s0, s1, s2, s3⟩ := st4 hD5.res (.int .i64 K) (.slice go i gc) (.int .i64 a) (.int .i64 b)
        obtain ⟨o1, o2, o3⟩ := hD5.out ⟨⟨hrc, hs1⟩, by omega⟩ (.int .i64 K) (.slice go i gc) (.int .i64 a) (.int .i64 b)
        go_wp2
        exact bodyPost_ret (v := .agg #[.int .i64 K, .slice go i gc, .int .i64 a, .int .i64 b]) (by simp [results, Tryz.results21, go_sem, s0, s1, s2, s3]) rfl ⟨_, _, _, _, _, _, rfl, by omega, by omega, o1.from (by omega), o2, o3⟩
      have hlt' : (i : Int) < 10 + (x : Int) := by omega
      have b1 : w5.cell? ⟨gb, 1, none⟩ = some (.slice go i gc) := hD5.box.cell (j := 1) (by omega)
      go_wp2_with (at_builtin; refine wpList_append_arc rfl _ _ rfl (w.heap.size + 1 + 1) i gc go rfl (hD5.own.next ((Below.refl _ _).alloc nl _)) w5.heap.size rfl _ _ _ (Go.Deep.blk_alloc_new _ _) (by omega) (by simp; omega) (by first | exact wfA (by omega) | exact wf_wrap _) (by first | exact wfA (by omega) | exact wf_wrap _) (by first | exact wfA (by omega) | exact wf_wrap _) ?_; intro g' gc' w6 hown6 hgrow hr6; have hbx6 := (hD5.box.alloc _).grown hgrow (fun e => (hD5.row e.symm).2 rfl); have hb6 : w6.cell? ⟨gb, 1, none⟩ = some (.slice go i gc) := hbx6.cell (j := 1) (by omega); have hz6 := hbx6.frozen 1)
      all_goals
        have R := (hD5.next ((Below.refl _ _).alloc nl _)).appended ⟨⟨hrc, hs1⟩, by omega⟩ hgrow hown6 hr6
        clear hbx6 hb6 hz6 hD5 hgrow hown6 hr6
        go_wp2
        go_roundw
        case rel => exact ⟨i + 1, gc', _, by omega, by go_num, R⟩
        case measure => simp [intOf]; omega
end
section
open Go.RowKit Go.Maps
def RowT (w : World) (t : TypeId) (ao : Option Addr) (m : Nat) (f : Nat → Value) : Prop := 0 < m → ∃ b o, ao = some ⟨b, o, none⟩ ∧ Typed w b t ∧ ∀ j, j < m → w.cell? ⟨b, o + j, none⟩ = some (f j)
theorem Typed.lt {w : World} {b : Nat} {t : TypeId} (h : Typed w b t) : b < w.heap.size := by
  obtain ⟨cs, z, h⟩ := h
  exact (Array.getElem?_eq_some_iff.1 h).1
theorem Typed.next {w w' : World} {b : Nat} {t : TypeId} (h : Typed w b t) (hb : Below w.heap.size w w') : Typed w' b t := by
  have := h.lt
  obtain ⟨cs, z, h⟩ := h
  exact ⟨cs, z, by rw [hb.block b this]; exact h⟩
theorem Typed.of_block {w w' : World} {b : Nat} {t : TypeId} (h : Typed w b t) (e : w'.heap[b]? = w.heap[b]?) : Typed w' b t := by
  obtain ⟨cs, z, h⟩ := h
  exact ⟨cs, z, e.trans h⟩
theorem RowT.of_block {w w' : World} {t : TypeId} {ao : Option Addr} {m : Nat} {f : Nat → Value} (h : RowT w t ao m f) (e : ∀ b, Typed w b t → w'.heap[b]? = w.heap[b]?) : RowT w' t ao m f := fun hm => by
  obtain ⟨b, o, e1, ht, hc⟩ := h hm
  exact ⟨b, o, e1, ht.of_block (e b ht), fun j hj => by rw [World.cell?_of_block (w := w) (e b ht)]; exact hc j hj⟩
theorem RowT.next {w w' : World} {t : TypeId} {ao : Option Addr} {m : Nat} {f : Nat → Value} (h : RowT w t ao m f) (hb : Below w.heap.size w w') : RowT w' t ao m f := h.of_block fun b ht => hb.block b ht.lt
theorem RowT.gr {w w' : World} {t u : TypeId} {ao : Option Addr} {m : Nat} {f : Nat → Value} {row : Option Nat} (h : RowT w t ao m f) (hg : w.grownBy w' row) (hx : ∀ x, row = some x → Typed w x u) (hn : t ≠ u) : RowT w' t ao m f :=
  h.of_block fun b ht => hg.block b ht.lt fun q => typed_ne ht (hx b q.symm) hn rfl
theorem RowT.kept {w w' : World} {t u : TypeId} {ao : Option Addr} {m : Nat} {f : Nat → Value} {x : Nat} (h : RowT w t ao m f) (hx : Typed w x u) (hn : t ≠ u) (keep : ∀ y, y ≠ x → w'.heap[y]? = w.heap[y]?) : RowT w' t ao m f :=
  h.of_block fun b ht => keep b fun q => typed_ne ht hx hn q
theorem RowT.row {w : World} {t : TypeId} {ao : Option Addr} {m : Nat} {f : Nat → Value} (h : RowT w t ao m f) : GRow w ao m f := fun hm => by
  obtain ⟨b, o, e, _, hc⟩ := h hm
  exact ⟨b, o, e, hc⟩
theorem TRow.rowT {w : World} {t : TypeId} {ao : Option Addr} {m : Nat} {f : Nat → Value} (h : TRow w t ao m f) : RowT w t ao m f := fun hm => by
  obtain ⟨g, e, hv⟩ := h hm
  exact ⟨g, 0, e, hv.typed, fun j hj => by rw [Nat.zero_add]; exact hv.cell hj⟩
theorem RowT.none {w : World} {t : TypeId} {ao : Option Addr} {f : Nat → Value} {m : Nat} (hm : m = 0) : RowT w t ao m f := fun h => by omega
theorem RowT.arcs {w : World} {ao : Option Addr} {n : Nat} {F T G : Nat → Int} (h : RowT w 67 ao (n * 3) (fun j => Value.int .i64 (ar F T G j))) : Row w ao n F T G := fun j hj => by
  obtain ⟨b, o, e, _, hc⟩ := h (by omega)
  refine ⟨b, o, e, ?_, ?_, ?_⟩
  · have := hc (j * 3) (by omega)
    simp only [ar] at this
    rw [if_pos (by omega)] at this
    have e3 : j * 3 / 3 = j := by omega
    rw [e3] at this
    exact this
  · have := hc (j * 3 + 1) (by omega)
    simp only [ar] at this
    rw [if_neg (by omega), if_pos (by omega)] at this
    have e3 : (j * 3 + 1) / 3 = j := by omega
    rw [e3] at this
    exact this
  · have := hc (j * 3 + 2) (by omega)
    simp only [ar] at this
    rw [if_neg (by omega), if_neg (by omega)] at this
    have e3 : (j * 3 + 2) / 3 = j := by omega
    rw [e3] at this
    exact this
structure SvM (w : World) (ao : Option Addr) (n : Nat) (po : Option Addr) (k : Nat) (eo : Option Addr) (m : Nat) (so : Option Addr) (t : Nat) (F T G P L H : Nat → Int) (S : Nat → ByteArray) : Prop where
  a : RowT w 67 ao (n * 3) (fun j => Value.int .i64 (ar F T G j))
  i : RowT w 2 po (k * 1) (fun j => Value.int .i64 (P j))
  e : RowT w 94 eo (m * 2) (fun j => Value.int .i64 (er L H j))
  s : RowT w 9 so (t * 1) (fun j => Value.string (S j))
  wf : ∀ j, j < n → (Lit.int .i64 (F j)).wf = true ∧ (Lit.int .i64 (T j)).wf = true
  hn : n ≤ 200
  hk : k ≤ 24
  hm : m ≤ 1000
section
variable {w w' : World} {ao : Option Addr} {n : Nat} {po : Option Addr} {k : Nat} {eo : Option Addr} {m : Nat} {so : Option Addr} {t : Nat} {F T G P L H : Nat → Int} {S : Nat → ByteArray}
theorem SvM.next (h : SvM w ao n po k eo m so t F T G P L H S) (hb : Below w.heap.size w w') : SvM w' ao n po k eo m so t F T G P L H S := ⟨h.a.next hb, h.i.next hb, h.e.next hb, h.s.next hb, h.wf, h.hn, h.hk, h.hm⟩
theorem SvM.gr (h : SvM w ao n po k eo m so t F T G P L H S) {c : Nat} (hg : w.grownBy w' (some c)) (hc : Typed w c 77) : SvM w' ao n po k eo m so t F T G P L H S :=
  have hx : ∀ x, some c = some x → Typed w x 77 := fun x e => by cases e; exact hc
  ⟨h.a.gr hg hx (by decide), h.i.gr hg hx (by decide), h.e.gr hg hx (by decide), h.s.gr hg hx (by decide), h.wf, h.hn, h.hk, h.hm⟩
theorem SvM.kept (h : SvM w ao n po k eo m so t F T G P L H S) {x : Nat} (hx : Typed w x 33) (keep : ∀ y, y ≠ x → w'.heap[y]? = w.heap[y]?) : SvM w' ao n po k eo m so t F T G P L H S :=
  ⟨h.a.kept hx (by decide) keep, h.i.kept hx (by decide) keep, h.e.kept hx (by decide) keep, h.s.kept hx (by decide) keep, h.wf, h.hn, h.hk, h.hm⟩
theorem SvM.ra (h : SvM w ao n po k eo m so t F T G P L H S) : Row w ao n F T G := h.a.arcs
theorem SvM.ri (h : SvM w ao n po k eo m so t F T G P L H S) : IRow w po k P := GRow.i h.i.row
theorem SvM.re (h : SvM w ao n po k eo m so t F T G P L H S) : ERow w eo m L H := GRow.e h.e.row
theorem SvM.rs (h : SvM w ao n po k eo m so t F T G P L H S) : SRow w so t S := GRow.s h.s.row
theorem SvM.arcsE (h : SvM w ao n po k eo m so t F T G P L H S) {c : Nat} (hc : Typed w c 77) : ArcsE w c ao n := by
  refine ⟨F, T, G, h.ra, h.wf, fun a e h0 => ?_⟩
  obtain ⟨b, o, e1, ht, _⟩ := h.a (by omega)
  rw [e1] at e
  cases e
  exact ⟨typed_ne ht hc (by decide), ht.lt⟩
end
theorem CurAt.typed {w : World} {base c : Nat} {ao : Option Addr} {n cap : Nat} (h : CurAt w base c ao n cap) : Typed w c 77 := by
  obtain ⟨i, x, _, _, hv⟩ := h.cur
  exact hv.typed
theorem AOwnE.rowT {w : World} {base n cap : Nat} {ao : Option Addr} (h : AOwnE w base ao n cap) : ∃ F T G : Nat → Int, RowT w 67 ao (n * 3) (fun j => Value.int .i64 (ar F T G j)) ∧ ∀ j, j < n → (Lit.int .i64 (F j)).wf = true ∧ (Lit.int .i64 (T j)).wf = true := by
  obtain ⟨f, hw, h⟩ := h
  refine ⟨fun j => f (j * 3), fun j => f (j * 3 + 1), fun j => f (j * 3 + 2), fun hm => ?_, fun j _ => ⟨hw _, hw _⟩⟩
  have hg : GOwn w base 67 3 ao n cap (fun j => Value.int .i64 (f j)) := h
  obtain ⟨g, e, hv⟩ := hg.trow hm
  refine ⟨g, 0, e, hv.typed, fun j hj => ?_⟩
  have := hv.cell hj
  rw [Nat.zero_add, this]
  simp only [ar]
  congr 2
  split
  · congr 1; omega
  · split
    · congr 1; omega
    · congr 1; omega
end
section
open Go.RowKit Go.Maps
attribute [local go_sem ↓] Go.wp_at_zero Go.wp_at_succ
theorem l1From_any (base c : Nat) (ao : Option Addr) (n cap : Nat) (w : World) (hC : CurAt w base c ao n cap) :
    Calls Tryz.prog 63 #[.pointer (some ⟨c, 0, none⟩), .int .i64 (-1), .int .i64 9] w fun e w' => ∃ x : Int, e = .returned (.int .i64 x) ∧ (-1 ≤ x ∧ x ≤ 9) ∧ CurAt w' base c ao n cap ∧ w.grownBy w' (some c) := by
  go_enter Tryz.func63, Tryz.ntmps63
  go_wp2_with (go_at_call 49; refine (l1Below_any base c ao n cap _ (by omega) (by omega) _ hC).mono ?_; rintro e w1 ⟨x, rfl, hx, hC1, hg1⟩)
  go_ret
  exact ⟨_, rfl, by omega, hC1, hg1⟩
end
end Go.Proofs.YthmpliljffmmcaaGreatDoor
