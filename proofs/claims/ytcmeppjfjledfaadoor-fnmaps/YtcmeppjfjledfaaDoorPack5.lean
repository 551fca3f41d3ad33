/-
  Helpers, merged: DrawAny, DrawBox, DrawGr, NumS, ShowS, DrawB, BendB, Bend, DrawRg, Ans, FnBig, LikeG.
-/
import Derived.Test.YtcmeppjfjledfaaDoorPack4
import Derived.BigRegion
import Derived.Test.YtcmeppjfjledfaaDoorPack1
import Derived.Laws.BytesArg
import Derived.Deep.AppendLies
import Derived.Laws.OwnMore
import Derived.Test.YtcmeppjfjledfaaDoorPack2
import Derived.Deep.QuietTactic
import Derived.Test.YtcmeppjfjledfaaDoorPack3
/-
  The document's l1DrawAny: some map comes, right or not.
-/
set_option linter.unusedVariables false
set_option linter.unusedSimpArgs false
namespace Go.Proofs.YtcmeppjfjledfaaDoor
open Go.RowKit Go.Maps
attribute [local go_sem ↓] Go.wp_at_zero Go.wp_at_succ

/-- A number out of a list that is written out. -/
theorem lit5 {W : World} {b : Nat} {a0 a1 a2 a3 a4 : Int} {t : TypeId} (h : W.heap[b]? = some (.cells #[.int .i64 a0, .int .i64 a1, .int .i64 a2, .int .i64 a3, .int .i64 a4] t (0, 0))) {y : Nat} (hy : y < 5) : ∃ v, W.cell? ⟨b, y, none⟩ = some (.int .i64 v) := by
  have : y = 0 ∨ y = 1 ∨ y = 2 ∨ y = 3 ∨ y = 4 := by omega
  rcases this with rfl | rfl | rfl | rfl | rfl <;> exact ⟨_, by simp [World.cell?, h]; rfl⟩
theorem lit4W {W : World} {b : Nat} {a0 a1 a2 a3 : Int} {t : TypeId} (h : W.heap[b]? = some (.cells #[.int .i64 a0, .int .i64 a1, .int .i64 a2, .int .i64 a3] t (0, 0))) (h0 : (Lit.int .i64 a0).wf = true) (h1 : (Lit.int .i64 a1).wf = true) (h2 : (Lit.int .i64 a2).wf = true) (h3 : (Lit.int .i64 a3).wf = true) {y : Nat} (hy : y < 4) : ∃ v, W.cell? ⟨b, y, none⟩ = some (.int .i64 v) ∧ (Lit.int .i64 v).wf = true := by
  have : y = 0 ∨ y = 1 ∨ y = 2 ∨ y = 3 := by omega
  rcases this with rfl | rfl | rfl | rfl
  · exact ⟨a0, by simp [World.cell?, h], h0⟩
  · exact ⟨a1, by simp [World.cell?, h], h1⟩
  · exact ⟨a2, by simp [World.cell?, h], h2⟩
  · exact ⟨a3, by simp [World.cell?, h], h3⟩
theorem lit4 {W : World} {b : Nat} {a0 a1 a2 a3 : Int} {t : TypeId} (h : W.heap[b]? = some (.cells #[.int .i64 a0, .int .i64 a1, .int .i64 a2, .int .i64 a3] t (0, 0))) {y : Nat} (hy : y < 4) : ∃ v, W.cell? ⟨b, y, none⟩ = some (.int .i64 v) := by
  have : y = 0 ∨ y = 1 ∨ y = 2 ∨ y = 3 := by omega
  rcases this with rfl | rfl | rfl | rfl <;> exact ⟨_, by simp [World.cell?, h]; rfl⟩
theorem AOwnE.cells {w : World} {base n cap : Nat} {ao : Option Addr} (h : AOwnE w base ao n cap) (hn : 0 < n) : ∃ g, ao = some ⟨g, 0, none⟩ ∧ base ≤ g ∧ g < w.heap.size ∧ (∀ j, j < n * 3 → ∃ v, w.cell? ⟨g, j, none⟩ = some (.int .i64 v) ∧ (Lit.int .i64 v).wf = true) ∧ (∀ j, w.frozen? ⟨g, j, none⟩ = false) ∧ ∀ j v, (Lit.int .i64 v).wf = true → AOwnE (w.setCell ⟨g, j, none⟩ (.int .i64 v)) base (some ⟨g, 0, none⟩) n cap := by
  obtain ⟨f, hw9, hl, h0 | ⟨g, cap', cur, hv, hb', hh, h1, h2, h3, h4⟩⟩ := h
  · omega
  · simp at hv
    obtain ⟨rfl, rfl⟩ := hv
    have hc : ∀ j, j < n * 3 → cur[j]? = some (.int .i64 (f j)) := fun j hj => by
      have : (cur.toList.take (n * 3))[j]? = (cellsOf f (n * 3))[j]? := by rw [h4]
      rw [List.getElem?_take_of_lt hj, cellsOf, List.getElem?_map, List.getElem?_range hj] at this
      simpa using this
    refine ⟨g, rfl, hb', (Array.getElem?_eq_some_iff.1 hh).1, fun j hj => ⟨f j, by simp [World.cell?, hh, hc j hj], hw9 j⟩, fun j => by simp [World.frozen?, hh], fun j v hv9 => ?_⟩
    refine ⟨fun i => if i = j then v else f i, fun i => by simp only; split; exact hv9; exact hw9 i, by simp [cellsOf], .inr ⟨g, cap, cur.setIfInBounds j (.int .i64 v), rfl, hb', ?_, h1, h2, by simpa using h3, ?_⟩⟩
    · simp [World.setCell, Array.getElem?_modify, hh]
    · apply List.ext_getElem?
      intro i
      by_cases hi : i < n * 3
      · have hcs : n * 3 ≤ cur.size := by rw [h3]; exact Nat.mul_le_mul_right 3 h1
        rw [List.getElem?_take_of_lt hi, cellsOf, List.getElem?_map, List.getElem?_range hi, Array.getElem?_toList, Array.getElem?_setIfInBounds]
        by_cases e : i = j
        · subst e
          rw [if_pos rfl, if_pos (by omega)]
          simp
        · rw [if_neg (fun h => e h.symm), hc i hi]
          simp [e]
      · rw [List.getElem?_eq_none (by simp; omega), List.getElem?_eq_none (by simp [cellsOf]; omega)]
/-- A store into the map's arcs. -/
theorem DS.put {w : World} {base c : Nat} {ao : Option Addr} {n cap rb gb : Nat} {p : Int} {k gc g : Nat} {W : World} (h : DS w base c ao n cap rb gb p (some ⟨g, 0, none⟩) k gc W) (hc : (c < rb ∧ rb < gb) ∧ w.heap.size ≤ rb) (hk : 0 < k) (j : Nat) (v : Int) (hv9 : (Lit.int .i64 v).wf = true) : DS w base c ao n cap rb gb p (some ⟨g, 0, none⟩) k gc (W.setCell ⟨g, j, none⟩ (.int .i64 v)) := by
  obtain ⟨g', e, h1, h2, _, _, h5⟩ := h.own.cells hk
  cases e
  have hng : g ≠ gb := h.ne _ rfl
  have hs := gr_setCell W g j (.int .i64 v)
  have hge := h.cur.ge
  exact ⟨h.cur.grown hs (by omega) (by omega), h.box.grown hs (by simp; omega), h5 j v hv9, h.ne, h.res.grown hs (by simp; omega), gr_far h.gr hs (fun x e => by cases e; exact h1) (by omega)⟩
/-- A store of the number of places. -/
theorem DS.places {w : World} {base c : Nat} {ao : Option Addr} {n cap rb gb : Nat} {p : Int} {go : Option Addr} {k gc : Nat} {W : World} (h : DS w base c ao n cap rb gb p go k gc W) (hc : (c < rb ∧ rb < gb) ∧ w.heap.size ≤ rb) (p' : Int) : DS w base c ao n cap rb gb p' go k gc (W.setCell ⟨gb, 0, none⟩ (.int .i64 p')) := by
  have hs := gr_setCell W gb 0 (.int .i64 p')
  have hge := h.cur.ge
  refine ⟨h.cur.grown hs (by omega) (by omega), (h.box.set 0 _).congr (fun j hj => ?_), ?_, h.ne, h.res.grown hs (by simp; omega), gr_far h.gr hs (fun x e => by cases e; exact Nat.le_refl _) (by omega)⟩
  · have : j = 0 ∨ j = 1 := by omega
    rcases this with rfl | rfl <;> rfl
  · obtain ⟨f, hw9, hl, h0 | ⟨g, cap', cur, hv, hb, hh, rest⟩⟩ := h.own
    · exact ⟨f, hw9, hl, .inl h0⟩
    · have hv' := hv
      simp at hv'
      have := h.ne _ hv'.1
      exact ⟨f, hw9, hl, .inr ⟨g, cap', cur, hv, hb, (hs.block g (Array.getElem?_eq_some_iff.1 hh).1 (by simp; exact this)).trans hh, rest⟩⟩

/-- A new map in the box. -/
theorem DS.reset {w : World} {base c : Nat} {ao : Option Addr} {n cap rb gb : Nat} {p : Int} {go : Option Addr} {k gc : Nat} {W : World} (h : DS w base c ao n cap rb gb p go k gc W) (hc : (c < rb ∧ rb < gb) ∧ w.heap.size ≤ rb) (p' : Int) : DS w base c ao n cap rb gb p' none 0 0 ((W.setCell ⟨gb, 0, none⟩ (.int .i64 p')).setCell ⟨gb, 1, none⟩ (.slice none 0 0)) := by
  have hs := (gr_setCell W gb 0 (.int .i64 p')).trans (gr_setCell _ gb 1 (.slice none 0 0))
  have hge := h.cur.ge
  refine ⟨h.cur.grown hs (by omega) (by omega), ((h.box.set 0 _).set 1 _).congr (fun j hj => ?_), aown_nil _ _, (fun a e => by cases e), h.res.grown hs (by simp; omega), gr_far h.gr hs (fun x e => by cases e; exact Nat.le_refl _) (by omega)⟩
  have : j = 0 ∨ j = 1 := by omega
  rcases this with rfl | rfl <;> rfl

set_option maxRecDepth 100000 in
set_option maxHeartbeats 8000000 in
theorem l1DrawAny_any (base c : Nat) (ao : Option Addr) (n cap : Nat) (w : World) (hC : CurAt w base c ao n cap) :
    Calls Tryd.prog 25 #[.pointer (some ⟨c, 0, none⟩)] w fun e w' => ∃ (p : Int) (go : Option Addr) (k gc : Nat), e = .returned (.agg #[.int .i64 p, .slice go k gc]) ∧ k ≤ 200 ∧ AOwnE w' w.heap.size go k gc ∧ CurAt w' base c ao n cap ∧ w.grownBy w' (some c) := by
  have hcl := hC.lt
  have hC0 := hC.next ((Below.refl _ w).alloc (Nat.le_refl _) (.cells #[.int .i64 0, .slice none 0 0] 26))
  go_enter Tryd.func25, Tryd.ntmps25
  go_wp2_with fail
  refine (l1Draw_any base c ao n cap _ hC0).mono ?_
  rintro e w1 ⟨p, go, k, gc, rfl, hpp, hk, hO1, hC1, hg1⟩
  have hrb1 := (gr_new w 0 (.slice none 0 0)).grown hg1 (by simp; omega)
  have hs1 := hrb1.lt
  have hD1 : DS w base c ao n cap w.heap.size w1.heap.size (p : Int) go k gc (w1.alloc (.cells #[.int .i64 (p : Int), .slice go k gc] 26)) :=
    ⟨hC1.next ((Below.refl _ w1).alloc (Nat.le_refl _) _), gr_new w1 _ _, (by simpa using hO1.next ((Below.refl _ w1).alloc (Nat.le_refl _) _)), (fun a e => by subst e; have := (hO1.at rfl).2; omega), hrb1.alloc _, ((World.grownBy_alloc w _ _).trans hg1).trans (World.grownBy_alloc w1 _ _)⟩
  clear hC1 hg1 hO1 hrb1 hC0
  go_wp2_with fail
  refine (l1Once_any base c ao n cap 12 (by omega) (by omega) _ hD1.cur).mono ?_
  rintro e w2 ⟨bx, rfl, hC2, hg2⟩
  have hD2 := hD1.step ⟨hcl, hs1⟩ hC2 hg2
  clear hD1 hC2 hg2
  obtain ⟨gb, hgb⟩ : ∃ gb, w1.heap.size = gb := ⟨_, rfl⟩
  rw [hgb] at hD2 hs1 ⊢
  clear hgb
  cases bx
  · skip
    have r0 : w2.cell? ⟨w.heap.size, 0, none⟩ = some (.int .i64 0) := hD2.res.cell (j := 0) (by omega)
    have r1 : w2.cell? ⟨w.heap.size, 1, none⟩ = some (.slice none 0 0) := hD2.res.cell (j := 1) (by omega)
    have y0 := hD2.res.frozen 0
    have y1 := hD2.res.frozen 1
    have b0 : w2.cell? ⟨gb, 0, none⟩ = some (.int .i64 (p : Int)) := hD2.box.cell (j := 0) (by omega)
    have b1 : w2.cell? ⟨gb, 1, none⟩ = some (.slice go k gc) := hD2.box.cell (j := 1) (by omega)
    obtain ⟨q0, q1, q2⟩ := res_cells hD2.res (p : Int) (.slice go k gc)
    obtain ⟨o1, o2, o3⟩ := hD2.out ⟨⟨hcl, hs1⟩, Nat.le_refl _⟩ (.int .i64 (p : Int)) (.slice go k gc)
    go_wp2
    simp [bodyPost, results, Tryd.results25, go_sem, q0, q1, q2]
    exact ⟨_, _, _, _, ⟨rfl, rfl, rfl, rfl⟩, by omega, o1, o2, o3⟩
  go_wp2_with fail
  refine (l1Below_any base c ao n cap 5 (by omega) (by omega) _ hD2.cur).mono ?_
  rintro e w3 ⟨x, rfl, hx, hC3, hg3⟩
  have hD3 := hD2.step ⟨hcl, hs1⟩ hC3 hg3
  clear hD2 hC3 hg3
  have hgl3 := hD3.box.lt
  have hx5 : x = 0 ∨ x = 1 ∨ x = 2 ∨ x = 3 ∨ x = 4 := by omega
  rcases hx5 with rfl | rfl | rfl | rfl | rfl
  · have hal := (Below.refl w3.heap.size w3).alloc (Nat.le_refl _) (.cells #[.int .i64 0, .int .i64 24, .int .i64 25, .int .i64 1, .int .i64 (-9223372036854775808)] 2)
    go_wp2_with fail
    refine (l1Below_any base c ao n cap 5 (by omega) (by omega) _ (hD3.next hal).cur).mono ?_
    rintro e w4 ⟨y, rfl, hy, hC4, hg4⟩
    have hD4 := (hD3.next hal).step ⟨hcl, hs1⟩ hC4 hg4
    obtain ⟨v, hv⟩ := lit5 ((hg4.block w3.heap.size (by simp) (by simp; omega)).trans (Go.Deep.blk_alloc_new _ _)) (show y < 5 by omega)
    clear hC4 hg4 hD3 hal
    have hy' : (y : Int) < 5 := by omega
    have c0 : w4.cell? ⟨gb, 0, none⟩ = some (.int .i64 (p : Int)) := hD4.box.cell (j := 0) (by omega)
    have z0 := hD4.box.frozen 0
    have hD5 := hD4.places ⟨⟨hcl, hs1⟩, Nat.le_refl _⟩ v
    clear hD4
    have r0 : (w4.setCell ⟨gb, 0, none⟩ (.int .i64 v)).cell? ⟨w.heap.size, 0, none⟩ = some (.int .i64 0) := hD5.res.cell (j := 0) (by omega)
    have r1 : (w4.setCell ⟨gb, 0, none⟩ (.int .i64 v)).cell? ⟨w.heap.size, 1, none⟩ = some (.slice none 0 0) := hD5.res.cell (j := 1) (by omega)
    have y0 := hD5.res.frozen 0
    have y1 := hD5.res.frozen 1
    have b0 : (w4.setCell ⟨gb, 0, none⟩ (.int .i64 v)).cell? ⟨gb, 0, none⟩ = some (.int .i64 v) := hD5.box.cell (j := 0) (by omega)
    have b1 : (w4.setCell ⟨gb, 0, none⟩ (.int .i64 v)).cell? ⟨gb, 1, none⟩ = some (.slice go k gc) := hD5.box.cell (j := 1) (by omega)
    obtain ⟨q0, q1, q2⟩ := res_cells hD5.res v (.slice go k gc)
    obtain ⟨o1, o2, o3⟩ := hD5.out ⟨⟨hcl, hs1⟩, Nat.le_refl _⟩ (.int .i64 v) (.slice go k gc)
    go_wp2
    simp [bodyPost, results, Tryd.results25, go_sem, q0, q1, q2]
    exact ⟨_, _, _, _, ⟨rfl, rfl, rfl, rfl⟩, by omega, o1, o2, o3⟩
  · have b1 : w3.cell? ⟨gb, 1, none⟩ = some (.slice go k gc) := hD3.box.cell (j := 1) (by omega)
    have hDc := hD3.next (Below.refl _ w3).drew
    clear hD3
    go_wp2
    go_region_law (first | (go_simp; go_at_call 42; refine (l1From_any base c ao n cap _ hDc.cur).mono ?_; rintro e w5 ⟨zz, rfl, hzb, hC5, hg5⟩; replace hDc := hDc.step ⟨hcl, hs1⟩ hC5 hg5; have b5 : w5.cell? ⟨gb, 1, none⟩ = some (.slice go k gc) := hDc.box.cell (j := 1) (by omega); have hl5 := hDc.box.lt; clear hC5 hg5) | (refine step_append_arc ?_ (.tmp 25) (.tmp 31) ?_ (w.heap.size + 1) k gc go ?_ (hDc.own.next ((Below.refl _ _).alloc (Nat.le_refl _) _)) w5.heap.size ?_ _ _ _ (Go.Deep.blk_alloc_new _ _) (by omega) (by have := hDc.box.lt; simp; omega) (by first | exact wfA (by omega) | exact wf_wrap _) (by first | exact wfA (by omega) | exact wf_wrap _) (by first | exact wfA (by omega) | exact wf_wrap _) ?_; rfl; rfl; rfl; rfl; intro g' gc' w6 hown6 hgrow hr6; have hbx6 := (hDc.box.alloc _).grown hgrow (fun e => (hDc.row e.symm).2 rfl); have hb6 : w6.cell? ⟨gb, 1, none⟩ = some (.slice go k gc) := hbx6.cell (j := 1) (by omega); have hz6 := hbx6.frozen 1))
    all_goals
      have R := (hDc.next ((Below.refl _ _).alloc (Nat.le_refl _) _)).appended ⟨⟨hcl, hs1⟩, Nat.le_refl _⟩ hgrow hown6 hr6
      clear hbx6 hb6 hz6 hDc hgrow hown6 hr6
      have r0 : (w6.setCell ⟨gb, 1, none⟩ (.slice (some ⟨g', 0, none⟩) (k + 1) gc')).cell? ⟨w.heap.size, 0, none⟩ = some (.int .i64 0) := R.res.cell (j := 0) (by omega)
      have r1 : (w6.setCell ⟨gb, 1, none⟩ (.slice (some ⟨g', 0, none⟩) (k + 1) gc')).cell? ⟨w.heap.size, 1, none⟩ = some (.slice none 0 0) := R.res.cell (j := 1) (by omega)
      have y0 := R.res.frozen 0
      have y1 := R.res.frozen 1
      have b0 : (w6.setCell ⟨gb, 1, none⟩ (.slice (some ⟨g', 0, none⟩) (k + 1) gc')).cell? ⟨gb, 0, none⟩ = some (.int .i64 (p : Int)) := R.box.cell (j := 0) (by omega)
      have b1 : (w6.setCell ⟨gb, 1, none⟩ (.slice (some ⟨g', 0, none⟩) (k + 1) gc')).cell? ⟨gb, 1, none⟩ = some (.slice (some ⟨g', 0, none⟩) (k + 1) gc') := R.box.cell (j := 1) (by omega)
      obtain ⟨q0, q1, q2⟩ := res_cells R.res (p : Int) (.slice (some ⟨g', 0, none⟩) (k + 1) gc')
      obtain ⟨o1, o2, o3⟩ := R.out ⟨⟨hcl, hs1⟩, Nat.le_refl _⟩ (.int .i64 (p : Int)) (.slice (some ⟨g', 0, none⟩) (k + 1) gc')
      go_wp2
      simp [bodyPost, results, Tryd.results25, go_sem, q0, q1, q2]
      exact ⟨_, _, _, _, ⟨rfl, rfl, rfl, rfl⟩, by omega, o1, o2, o3⟩
  · by_cases h0 : 0 < k
    rotate_left
    · have h0' : ¬ 0 < (k : Int) := by omega
      have r0 : w3.cell? ⟨w.heap.size, 0, none⟩ = some (.int .i64 0) := hD3.res.cell (j := 0) (by omega)
      have r1 : w3.cell? ⟨w.heap.size, 1, none⟩ = some (.slice none 0 0) := hD3.res.cell (j := 1) (by omega)
      have y0 := hD3.res.frozen 0
      have y1 := hD3.res.frozen 1
      have b0 : w3.cell? ⟨gb, 0, none⟩ = some (.int .i64 (p : Int)) := hD3.box.cell (j := 0) (by omega)
      have b1 : w3.cell? ⟨gb, 1, none⟩ = some (.slice go k gc) := hD3.box.cell (j := 1) (by omega)
      obtain ⟨q0, q1, q2⟩ := res_cells hD3.res (p : Int) (.slice go k gc)
      obtain ⟨o1, o2, o3⟩ := hD3.out ⟨⟨hcl, hs1⟩, Nat.le_refl _⟩ (.int .i64 (p : Int)) (.slice go k gc)
      go_wp2
      simp [bodyPost, results, Tryd.results25, go_sem, q0, q1, q2]
      exact ⟨_, _, _, _, ⟨rfl, rfl, rfl, rfl⟩, by omega, o1, o2, o3⟩
    have h0' : 0 < (k : Int) := by omega
    obtain ⟨g, rfl, hg0, hg1, _, _, _⟩ := hD3.own.cells h0
    have b1 : w3.cell? ⟨gb, 1, none⟩ = some (.slice (some ⟨g, 0, none⟩) k gc) := hD3.box.cell (j := 1) (by omega)
    have hng : g ≠ gb := hD3.ne _ rfl
    have hDd := hD3.next (Below.refl _ w3).drew
    have hDa := (hD3.next ((Below.refl _ w3).alloc (Nat.le_refl _) (.cells #[.int .i64 0, .int .i64 1000000, .int .i64 1000001, .int .i64 (-1)] 2))).next (Below.refl _ _).drew
    clear hD3
    go_wp2
    go_region_law (first
      | (go_simp; go_at_call 41; refine (l1Below_any base c ao n cap 4 (by omega) (by omega) _ hDa.cur).mono ?_; rintro e w5 ⟨y, rfl, hy, hC5, hg5⟩; have hDs := hDa.step ⟨hcl, hs1⟩ hC5 hg5; obtain ⟨v, hv, hvw⟩ := lit4W ((hg5.block w3.heap.size (by simp) (by simp <;> omega)).trans (Go.Deep.blk_alloc_new w3 (.cells #[.int .i64 0, .int .i64 1000000, .int .i64 1000001, .int .i64 (-1)] 2))) (wfA (by omega)) (wfA (by omega)) (wfA (by omega)) (wfA (by omega)) (show y < 4 by omega); obtain ⟨g5, eg5, _, hgl5, hcs5, hfz5, _⟩ := hDs.own.cells h0; cases eg5; obtain ⟨u2, e2, _⟩ := hcs5 2 (by omega); have f2 := hfz5 2; have b5 : w5.cell? ⟨gb, 1, none⟩ = some (.slice (some ⟨g, 0, none⟩) k gc) := hDs.box.cell (j := 1) (by omega); have hl5 := hDs.box.lt; have hy4 : (y : Int) < 4 := (by omega); clear hC5 hg5 hcs5 hfz5)
      | (go_simp; go_at_call 41; refine (l1Below_any base c ao n cap 4 (by omega) (by omega) _ hDd.cur).mono ?_; rintro e w5 ⟨y, rfl, hy, hC5, hg5⟩; have hDs := hDd.step ⟨hcl, hs1⟩ hC5 hg5; obtain ⟨v, hv, hvw⟩ := lit4W (Go.Deep.blk_alloc_new w5 (.cells #[.int .i64 0, .int .i64 1000000, .int .i64 1000001, .int .i64 (-1)] 2)) (wfA (by omega)) (wfA (by omega)) (wfA (by omega)) (wfA (by omega)) (show y < 4 by omega); obtain ⟨g5, eg5, _, hgl5, hcs5, hfz5, _⟩ := hDs.own.cells h0; cases eg5; obtain ⟨u2, e2, _⟩ := hcs5 2 (by omega); have f2 := hfz5 2; have b5 : w5.cell? ⟨gb, 1, none⟩ = some (.slice (some ⟨g, 0, none⟩) k gc) := hDs.box.cell (j := 1) (by omega); have hl5 := hDs.box.lt; have hy4 : (y : Int) < 4 := (by omega); clear hC5 hg5 hcs5 hfz5))
    all_goals
      have b0 : w5.cell? ⟨gb, 0, none⟩ = some (.int .i64 (p : Int)) := hDs.box.cell (j := 0) (by omega)
      have r0 : w5.cell? ⟨w.heap.size, 0, none⟩ = some (.int .i64 0) := hDs.res.cell (j := 0) (by omega)
      have r1 : w5.cell? ⟨w.heap.size, 1, none⟩ = some (.slice none 0 0) := hDs.res.cell (j := 1) (by omega)
      have y0 := hDs.res.frozen 0
      have y1 := hDs.res.frozen 1
      have hgr1 : g ≠ w.heap.size := by omega
      have hgr2 : w.heap.size ≠ g := by omega
      have hgr3 : w.heap.size ≠ gb := by omega
      have hng2 : gb ≠ g := fun e => hng e.symm
      have hrl : w.heap.size < w5.heap.size := by omega
      clear hDd hDa
      first
      | (have R := hDs.put ⟨⟨hcl, hs1⟩, Nat.le_refl _⟩ h0 2 v hvw
         obtain ⟨q0, q1, q2⟩ := res_cells R.res (p : Int) (.slice (some ⟨g, 0, none⟩) k gc)
         obtain ⟨o1, o2, o3⟩ := R.out ⟨⟨hcl, hs1⟩, Nat.le_refl _⟩ (.int .i64 (p : Int)) (.slice (some ⟨g, 0, none⟩) k gc)
         go_wp2
         simp [bodyPost, results, Tryd.results25, go_sem, q0, q1, q2]
         exact ⟨_, _, _, _, ⟨rfl, rfl, rfl, rfl⟩, by omega, o1, o2, o3⟩)
      | (have R := hDs.put ⟨⟨hcl, hs1⟩, Nat.le_refl _⟩ h0 2 v hvw
         obtain ⟨q0, q1, q2⟩ := res_cells R.res (p : Int) (.slice (some ⟨g, 0, none⟩) k gc)
         obtain ⟨o1, o2, o3⟩ := R.out ⟨⟨hcl, hs1⟩, Nat.le_refl _⟩ (.int .i64 (p : Int)) (.slice (some ⟨g, 0, none⟩) k gc)
         go_wp2
         simp [bodyPost, results, Tryd.results25, go_sem, q0, q1, q2, hrl]
         exact ⟨_, _, _, _, ⟨rfl, rfl, rfl, rfl⟩, by omega, o1.next ((Below.refl _ _).alloc (Nat.le_refl _) _), o2.next ((Below.refl _ _).alloc (Nat.le_refl _) _), o3.trans (World.grownBy_alloc _ _ _)⟩)
  · have c0 : w3.cell? ⟨gb, 0, none⟩ = some (.int .i64 (p : Int)) := hD3.box.cell (j := 0) (by omega)
    have c1 : w3.cell? ⟨gb, 1, none⟩ = some (.slice go k gc) := hD3.box.cell (j := 1) (by omega)
    have z0 := hD3.box.frozen 0
    have z1 := hD3.box.frozen 1
    have hD4 := hD3.reset ⟨⟨hcl, hs1⟩, Nat.le_refl _⟩ 24
    clear hD3
    go_wp2
    clear c0 c1 z0 z1
    go_loopw [4] (fun x wr => ∃ (i gc : Nat) (go : Option Addr), i ≤ 101 ∧ x = .int .i64 i ∧ DS w base c ao n cap w.heap.size gb 24 go i gc wr) (fun x _ => 101 - (intOf x).toNat)
    case atStart => exact ⟨0, 0, none, by omega, rfl, hD4⟩
    case round =>
      clear hD4
      obtain ⟨i, gc, go, hi, rfl, hD⟩ := hrel
      go_wp2_with fail
      refine (l1Below_any base c ao n cap 2 (by omega) (by omega) _ hD.cur).mono ?_
      rintro e w5 ⟨x, rfl, hx2, hC5, hg5⟩
      have hD5 := hD.step ⟨hcl, hs1⟩ hC5 hg5
      clear hD hC5 hg5
      have hl5 := hD5.box.lt
      by_cases hlt : i < 100 + x
      rotate_left
      · have hlt' : ¬ (i : Int) < 100 + (x : Int) := by omega
        have r0 : w5.cell? ⟨w.heap.size, 0, none⟩ = some (.int .i64 0) := hD5.res.cell (j := 0) (by omega)
        have r1 : w5.cell? ⟨w.heap.size, 1, none⟩ = some (.slice none 0 0) := hD5.res.cell (j := 1) (by omega)
        have y0 := hD5.res.frozen 0
        have y1 := hD5.res.frozen 1
        have b0 : w5.cell? ⟨gb, 0, none⟩ = some (.int .i64 24) := hD5.box.cell (j := 0) (by omega)
        have b1 : w5.cell? ⟨gb, 1, none⟩ = some (.slice go i gc) := hD5.box.cell (j := 1) (by omega)
        obtain ⟨q0, q1, q2⟩ := res_cells hD5.res 24 (.slice go i gc)
        obtain ⟨o1, o2, o3⟩ := hD5.out ⟨⟨hcl, hs1⟩, Nat.le_refl _⟩ (.int .i64 24) (.slice go i gc)
        go_wp2
        simp [bodyPost, results, Tryd.results25, go_sem, q0, q1, q2]
        exact ⟨_, _, _, _, ⟨rfl, rfl, rfl, rfl⟩, by omega, o1, o2, o3⟩
      have hlt' : (i : Int) < 100 + (x : Int) := by omega
      have b1 : w5.cell? ⟨gb, 1, none⟩ = some (.slice go i gc) := hD5.box.cell (j := 1) (by omega)
      go_wp2_with (at_builtin; refine wpList_append_arc rfl _ _ rfl (w.heap.size + 1) i gc go rfl (hD5.own.next ((Below.refl _ _).alloc (Nat.le_refl _) _)) w5.heap.size rfl _ _ _ (Go.Deep.blk_alloc_new _ _) (by omega) (by simp; omega) (by first | exact wfA (by omega) | exact wf_wrap _) (by first | exact wfA (by omega) | exact wf_wrap _) (by first | exact wfA (by omega) | exact wf_wrap _) ?_; intro g' gc' w6 hown6 hgrow hr6; have hbx6 := (hD5.box.alloc _).grown hgrow (fun e => (hD5.row e.symm).2 rfl); have hb6 : w6.cell? ⟨gb, 1, none⟩ = some (.slice go i gc) := hbx6.cell (j := 1) (by omega); have hz6 := hbx6.frozen 1)
      all_goals
        have R := (hD5.next ((Below.refl _ _).alloc (Nat.le_refl _) _)).appended ⟨⟨hcl, hs1⟩, Nat.le_refl _⟩ hgrow hown6 hr6
        clear hbx6 hb6 hz6 hD5 hgrow hown6 hr6
        go_wp2
        go_roundw
        case rel => exact ⟨i + 1, gc', _, by omega, by go_num, R⟩
        case measure => simp [intOf]; omega
  · by_cases h1 : 1 < k
    rotate_left
    · have h1' : ¬ 1 < (k : Int) := by omega
      have r0 : w3.cell? ⟨w.heap.size, 0, none⟩ = some (.int .i64 0) := hD3.res.cell (j := 0) (by omega)
      have r1 : w3.cell? ⟨w.heap.size, 1, none⟩ = some (.slice none 0 0) := hD3.res.cell (j := 1) (by omega)
      have y0 := hD3.res.frozen 0
      have y1 := hD3.res.frozen 1
      have b0 : w3.cell? ⟨gb, 0, none⟩ = some (.int .i64 (p : Int)) := hD3.box.cell (j := 0) (by omega)
      have b1 : w3.cell? ⟨gb, 1, none⟩ = some (.slice go k gc) := hD3.box.cell (j := 1) (by omega)
      obtain ⟨q0, q1, q2⟩ := res_cells hD3.res (p : Int) (.slice go k gc)
      obtain ⟨o1, o2, o3⟩ := hD3.out ⟨⟨hcl, hs1⟩, Nat.le_refl _⟩ (.int .i64 (p : Int)) (.slice go k gc)
      go_wp2
      simp [bodyPost, results, Tryd.results25, go_sem, q0, q1, q2]
      exact ⟨_, _, _, _, ⟨rfl, rfl, rfl, rfl⟩, by omega, o1, o2, o3⟩
    have h1' : 1 < (k : Int) := by omega
    obtain ⟨g, rfl, hg0, hg1, hcs, hfz, _⟩ := hD3.own.cells (by omega)
    obtain ⟨v0, e0, wv0⟩ := hcs 0 (by omega)
    obtain ⟨v1, e1, wv1⟩ := hcs 1 (by omega)
    obtain ⟨v2, e2, wv2⟩ := hcs 2 (by omega)
    have b1 : w3.cell? ⟨gb, 1, none⟩ = some (.slice (some ⟨g, 0, none⟩) k gc) := hD3.box.cell (j := 1) (by omega)
    have hal := (Below.refl w3.heap.size w3).alloc (Nat.le_refl _) (.cells #[.int .i64 v0, .int .i64 v1, .int .i64 v2] 37)
    have hDz := hD3.next hal
    have xa0 : (w3.alloc (.cells #[.int .i64 v0, .int .i64 v1, .int .i64 v2] 37)).cell? ⟨w3.heap.size, 0, none⟩ = some (.int .i64 v0) := by simp [go_sem]
    have xa1 : (w3.alloc (.cells #[.int .i64 v0, .int .i64 v1, .int .i64 v2] 37)).cell? ⟨w3.heap.size, 1, none⟩ = some (.int .i64 v1) := by simp [go_sem]
    have xa2 : (w3.alloc (.cells #[.int .i64 v0, .int .i64 v1, .int .i64 v2] 37)).cell? ⟨w3.heap.size, 2, none⟩ = some (.int .i64 v2) := by simp [go_sem]
    go_wp2
    clear hal hcs hfz b1 hD3 e0 e1 e2
    have hxg : g ≠ w3.heap.size := by omega
    have hxb : gb ≠ w3.heap.size := by omega
    generalize w3.alloc (.cells #[.int .i64 v0, .int .i64 v1, .int .i64 v2] 37) = wz at hDz xa0 xa1 xa2 ⊢
    generalize w3.heap.size = xb at xa0 xa1 xa2 hxg hxb ⊢
    obtain ⟨g', e, _, _, hcs, hfz, _⟩ := hDz.own.cells (by omega)
    cases e
    obtain ⟨u0, e0, wu0⟩ := hcs 0 (by omega)
    obtain ⟨u1, e1, wu1⟩ := hcs 1 (by omega)
    obtain ⟨u2, e2, wu2⟩ := hcs 2 (by omega)
    obtain ⟨u3, e3, wu3⟩ := hcs 3 (by omega)
    obtain ⟨u4, e4, wu4⟩ := hcs 4 (by omega)
    obtain ⟨u5, e5, wu5⟩ := hcs 5 (by omega)
    have f0 := hfz 0
    have f1 := hfz 1
    have f2 := hfz 2
    have b1 : wz.cell? ⟨gb, 1, none⟩ = some (.slice (some ⟨g, 0, none⟩) k gc) := hDz.box.cell (j := 1) (by omega)
    have hng : g ≠ gb := hDz.ne _ rfl
    have hng2 : gb ≠ g := fun e => hng e.symm
    have HD : Hid (DS w base c ao n cap w.heap.size gb (p : Int) (some ⟨g, 0, none⟩) k gc wz) := hDz
    have hk1 : (1 : Int) < (k : Int) := by omega
    have hk2 : (0 : Int) < (k : Int) := by omega
    clear hcs hfz hDz
    go_big_region
    have hDy := (((HD.out.put ⟨⟨hcl, hs1⟩, Nat.le_refl _⟩ (by omega) 0 u3 wu3).put ⟨⟨hcl, hs1⟩, Nat.le_refl _⟩ (by omega) 1 u4 wu4).put ⟨⟨hcl, hs1⟩, Nat.le_refl _⟩ (by omega) 2 u5 wu5).next (Below.refl _ _).drew
    have hgs := ((gr_setCell wz g 0 (.int .i64 u3)).trans (gr_setCell _ g 1 (.int .i64 u4))).trans (gr_setCell _ g 2 (.int .i64 u5))
    have ya0 : (((wz.setCell ⟨g, 0, none⟩ (.int .i64 u3)).setCell ⟨g, 1, none⟩ (.int .i64 u4)).setCell ⟨g, 2, none⟩ (.int .i64 u5)).drew.cell? ⟨xb, 0, none⟩ = some (.int .i64 v0) := hgs.cell xa0 (by simp; omega)
    have ya1 : (((wz.setCell ⟨g, 0, none⟩ (.int .i64 u3)).setCell ⟨g, 1, none⟩ (.int .i64 u4)).setCell ⟨g, 2, none⟩ (.int .i64 u5)).drew.cell? ⟨xb, 1, none⟩ = some (.int .i64 v1) := hgs.cell xa1 (by simp; omega)
    have ya2 : (((wz.setCell ⟨g, 0, none⟩ (.int .i64 u3)).setCell ⟨g, 1, none⟩ (.int .i64 u4)).setCell ⟨g, 2, none⟩ (.int .i64 u5)).drew.cell? ⟨xb, 2, none⟩ = some (.int .i64 v2) := hgs.cell xa2 (by simp; omega)
    clear HD e0 e1 e2 e3 e4 e5 f0 f1 f2 b1 xa0 xa1 xa2 hgs
    generalize (((wz.setCell ⟨g, 0, none⟩ (.int .i64 u3)).setCell ⟨g, 1, none⟩ (.int .i64 u4)).setCell ⟨g, 2, none⟩ (.int .i64 u5)).drew = wy at hDy ya0 ya1 ya2 ⊢
    obtain ⟨g', e, _, _, hcs, hfz, _⟩ := hDy.own.cells (by omega)
    cases e
    obtain ⟨t3, e3, wt3⟩ := hcs 3 (by omega)
    obtain ⟨t4, e4, wt4⟩ := hcs 4 (by omega)
    obtain ⟨t5, e5, wt5⟩ := hcs 5 (by omega)
    have f3 := hfz 3
    have f4 := hfz 4
    have f5 := hfz 5
    have b1 : wy.cell? ⟨gb, 1, none⟩ = some (.slice (some ⟨g, 0, none⟩) k gc) := hDy.box.cell (j := 1) (by omega)
    have hDx := ((hDy.put ⟨⟨hcl, hs1⟩, Nat.le_refl _⟩ (by omega) 3 v0 wv0).put ⟨⟨hcl, hs1⟩, Nat.le_refl _⟩ (by omega) 4 v1 wv1).put ⟨⟨hcl, hs1⟩, Nat.le_refl _⟩ (by omega) 5 v2 wv2
    have b0 : wy.cell? ⟨gb, 0, none⟩ = some (.int .i64 (p : Int)) := hDy.box.cell (j := 0) (by omega)
    have r0 : wy.cell? ⟨w.heap.size, 0, none⟩ = some (.int .i64 0) := hDy.res.cell (j := 0) (by omega)
    have r1 : wy.cell? ⟨w.heap.size, 1, none⟩ = some (.slice none 0 0) := hDy.res.cell (j := 1) (by omega)
    have y0 := hDy.res.frozen 0
    have y1 := hDy.res.frozen 1
    have hgr1 : g ≠ w.heap.size := by omega
    have hgr2 : w.heap.size ≠ g := by omega
    have hgr3 : w.heap.size ≠ gb := by omega
    obtain ⟨q0, q1, q2⟩ := res_cells hDx.res (p : Int) (.slice (some ⟨g, 0, none⟩) k gc)
    obtain ⟨o1, o2, o3⟩ := hDx.out ⟨⟨hcl, hs1⟩, Nat.le_refl _⟩ (.int .i64 (p : Int)) (.slice (some ⟨g, 0, none⟩) k gc)
    clear hcs hfz hDy
    go_wp2
    simp [bodyPost, results, Tryd.results25, go_sem, q0, q1, q2]
    exact ⟨_, _, _, _, ⟨rfl, rfl, rfl, rfl⟩, by omega, o1, o2, o3⟩

end Go.Proofs.YtcmeppjfjledfaaDoor

/-
  What stands while something is drawn beside a map.
-/
set_option linter.unusedVariables false
set_option linter.unusedSimpArgs false
namespace Go.Proofs.YtcmeppjfjledfaaDoor
open Go.RowKit Go.Maps
attribute [local go_sem ↓] Go.wp_at_zero Go.wp_at_succ

theorem Row.otherB {w w' : World} {ao : Option Addr} {n : Nat} {F T G : Nat → Int} {row : Option Nat} (h : Row w ao n F T G) (hg : w.grownBy w' row) (hB : ∀ a, ao = some a → 0 < n → some a.block ≠ row) : Row w' ao n F T G := fun k hk => by
  obtain ⟨b', o, e, c0, c1, c2⟩ := h k hk
  have hne := hB _ e (by omega)
  exact ⟨b', o, e, hg.cell c0 hne, hg.cell c1 hne, hg.cell c2 hne⟩
theorem IRow.other {w w' : World} {ao : Option Addr} {n : Nat} {f : Nat → Int} {row : Option Nat} (h : IRow w ao n f) (hg : w.grownBy w' row) (hB : ∀ a, ao = some a → 0 < n → some a.block ≠ row) : IRow w' ao n f := fun k hk => by
  obtain ⟨b', o, e, c0⟩ := h k hk
  have hne := hB _ e (by omega)
  exact ⟨b', o, e, hg.cell c0 hne⟩
/-- A map that was drawn: its arcs in new memory. -/
def Drawn (w w' : World) (ao : Option Addr) (n : Nat) : Prop := ∃ F T G : Nat → Int, Row w' ao n F T G ∧ ∀ a, ao = some a → 0 < n → w.heap.size ≤ a.block
theorem drawn_of {w w' : World} {base n cap : Nat} {ao : Option Addr} (h : AOwnE w' base ao n cap) (hb : w.heap.size ≤ base) : Drawn w w' ao n := by
  obtain ⟨F, T, G, hr, hg⟩ := h.row
  refine ⟨F, T, G, hr, fun a e hn => ?_⟩
  obtain ⟨g, e', hg'⟩ := hg hn
  rw [e] at e'
  cases e'
  exact Nat.le_trans hb hg'
theorem below_fard {w W : World} {c : Nat} (h : w.grownBy W (some c)) (hc : w.heap.size ≤ c) : Below w.heap.size w W := gr_below h hc (Nat.le_refl _)

/-- What stands while something is drawn beside a map: the cursor, the box of a result, the map's box, its arcs. -/
structure DW (w : World) (base c : Nat) (ao : Option Addr) (n cap : Nat) (rb gb ob : Nat) (p : Int) (go : Option Addr) (k gc : Nat) (W : World) : Prop where
  cur : CurAt W base c ao n cap
  res : VHas W rb 26 2 (grV 0 (.slice none 0 0))
  box : VHas W gb 26 2 (grV p (.slice go k gc))
  own : AOwnE W ob go k gc
  bel : Below w.heap.size w W
theorem DW.step {w : World} {base c : Nat} {ao : Option Addr} {n cap rb gb ob : Nat} {p : Int} {go : Option Addr} {k gc : Nat} {W W' : World} (h : DW w base c ao n cap rb gb ob p go k gc W) (hc : (rb < c ∧ c < ob ∧ c < gb) ∧ w.heap.size ≤ c) (hC : CurAt W' base c ao n cap) (hg : W.grownBy W' (some c)) : DW w base c ao n cap rb gb ob p go k gc W' :=
  ⟨hC, h.res.grown hg (by simp; omega), h.box.grown hg (by simp; omega), h.own.grown hg (by omega), h.bel.trans (gr_below hg hc.2 h.bel.size)⟩
theorem DW.next {w : World} {base c : Nat} {ao : Option Addr} {n cap rb gb ob : Nat} {p : Int} {go : Option Addr} {k gc : Nat} {W W' : World} (h : DW w base c ao n cap rb gb ob p go k gc W) (hb : Below W.heap.size W W') : DW w base c ao n cap rb gb ob p go k gc W' :=
  ⟨h.cur.next hb, h.res.next hb, h.box.next hb, h.own.next hb, below_next h.bel (Nat.le_refl _) hb⟩
theorem DW.out {w : World} {base c : Nat} {ao : Option Addr} {n cap rb gb ob : Nat} {p : Int} {go : Option Addr} {k gc : Nat} {W : World} (h : DW w base c ao n cap rb gb ob p go k gc W) (hc : (rb < c ∧ c < ob ∧ c < gb) ∧ w.heap.size ≤ rb) (v0 v1 : Value) :
    Drawn w ((W.setCell ⟨rb, 0, none⟩ v0).setCell ⟨rb, 1, none⟩ v1) go k ∧ Below w.heap.size w ((W.setCell ⟨rb, 0, none⟩ v0).setCell ⟨rb, 1, none⟩ v1) := by
  have h1 := gr_setCell W rb 0 v0
  have h2 := gr_setCell (W.setCell ⟨rb, 0, none⟩ v0) rb 1 v1
  exact ⟨drawn_of ((h.own.grown h1 (by omega)).grown h2 (by omega)) (by omega), (h.bel.setCell (p := ⟨rb, 0, none⟩) hc.2 v0).setCell (p := ⟨rb, 1, none⟩) hc.2 v1⟩

end Go.Proofs.YtcmeppjfjledfaaDoor

/-
  The document's draw of a map.
-/
set_option linter.unusedVariables false
set_option linter.unusedSimpArgs false
namespace Go.Proofs.YtcmeppjfjledfaaDoor
open Go.RowKit Go.Maps
attribute [local go_sem ↓] Go.wp_at_zero Go.wp_at_succ

set_option maxHeartbeats 1000000 in
theorem drawGraph_any (ao : Option Addr) (n cap : Nat) (hn : n ≤ 4096) (w : World) (hr : ByRow w w.heap.size ao n) :
    Calls Tryd.prog 13 #[.slice ao n cap] w fun e w' => ∃ (p : Int) (go : Option Addr) (k gc : Nat), e = .returned (.agg #[.int .i64 p, .slice go k gc]) ∧ k ≤ 200 ∧ Drawn w w' go k ∧ Below w.heap.size w w' := by
  have hal0 := (Below.refl w.heap.size w).alloc (Nat.le_refl _) (.cells #[.int .i64 0, .slice none 0 0] 26)
  have hr0 : ByRow (w.alloc (.cells #[.int .i64 0, .slice none 0 0] 26)) (w.alloc (.cells #[.int .i64 0, .slice none 0 0] 26)).heap.size ao n := fun k hk => by
    obtain ⟨b, o, v, e, hb, hc⟩ := (hr.below hal0 (Nat.le_refl _)) k hk
    exact ⟨b, o, v, e, by simp; omega, hc⟩
  go_enter Tryd.func13, Tryd.ntmps13
  go_wp2_with fail
  refine (l1New_any ao n cap hn _ hr0).mono ?_
  rintro e w1 ⟨c, rfl, hC1, hb1⟩
  have hcg := hC1.ge
  simp only [World.size_alloc] at hcg hC1 hb1
  have hcl1 := hC1.lt
  have hrb1 := (gr_new w 0 (.slice none 0 0)).below hb1 (by omega)
  have hbel1 : Below w.heap.size w w1 := hal0.trans (hb1.mono (by omega))
  have hz1 := hbel1.size
  go_wp2_with fail
  refine (l1DrawAny_any _ c ao n cap _ hC1).mono ?_
  rintro e w3 ⟨p, go, k, gc, rfl, hk, hO3, hC3, hg3⟩
  have hrb3 := hrb1.grown hg3 (by simp; omega)
  have hbel3 := hbel1.trans (gr_below hg3 (by omega) hbel1.size)
  have r0 : w3.cell? ⟨w.heap.size, 0, none⟩ = some (.int .i64 0) := hrb3.cell (j := 0) (by omega)
  have r1 : w3.cell? ⟨w.heap.size, 1, none⟩ = some (.slice none 0 0) := hrb3.cell (j := 1) (by omega)
  have y0 := hrb3.frozen 0
  have y1 := hrb3.frozen 1
  obtain ⟨q0, q1, q2⟩ := res_cells hrb3 p (.slice go k gc)
  have h1 := gr_setCell w3 w.heap.size 0 (.int .i64 p)
  have h2 := gr_setCell (w3.setCell ⟨w.heap.size, 0, none⟩ (.int .i64 p)) w.heap.size 1 (.slice go k gc)
  have o1 : Drawn w ((w3.setCell ⟨w.heap.size, 0, none⟩ (.int .i64 p)).setCell ⟨w.heap.size, 1, none⟩ (.slice go k gc)) go k := drawn_of ((hO3.grown h1 (by omega)).grown h2 (by omega)) (by omega)
  have o2 : Below w.heap.size w ((w3.setCell ⟨w.heap.size, 0, none⟩ (.int .i64 p)).setCell ⟨w.heap.size, 1, none⟩ (.slice go k gc)) := (hbel3.setCell (p := ⟨w.heap.size, 0, none⟩) (Nat.le_refl _) _).setCell (p := ⟨w.heap.size, 1, none⟩) (Nat.le_refl _) _
  clear hC3 hg3 hO3 hrb1 hrb3 hal0 hr0 hC1 hb1 h1 h2
  go_wp2
  exact bodyPost_ret (v := .agg #[.int .i64 p, .slice go k gc]) (by simp [results, Tryd.results13, go_sem, q0, q1, q2]) rfl ⟨p, go, k, gc, rfl, hk, o1, o2⟩

end Go.Proofs.YtcmeppjfjledfaaDoor

/-
  l1Int of any number: some short text.
-/
set_option linter.unusedVariables false
set_option linter.unusedSimpArgs false
namespace Go.Proofs.YtcmeppjfjledfaaDoor
open Go.RowKit
attribute [local go_sem ↓] Go.wp_at_zero Go.wp_at_succ

theorem wrap_abs (x : Int) : (IntKind.i64.wrap x).natAbs ≤ 9223372036854775808 := by rw [IntKind.wrap_i64]; omega
theorem div10_abs (x : Int) : (x.tdiv 10).natAbs = x.natAbs / 10 := by rw [Int.natAbs_tdiv]; rfl
theorem wrap_small {x : Int} (h : x.natAbs < 9223372036854775808) : IntKind.i64.wrap x = x := by rw [IntKind.wrap_i64]; omega

theorem sn_size (v : Int) : (strOfNums [v]).size = 1 := by simp [strOfNums]; rfl
theorem pow_le {r k : Nat} (h : r * 10 ^ k ≤ 9223372036854775808) (hr : 0 < r) : k ≤ 18 := by
  rcases Nat.lt_or_ge k 19 with h1 | h1
  · omega
  · have h2 : 10 ^ 19 ≤ 10 ^ k := Nat.pow_le_pow_right (by omega) h1
    have h3 : 10 ^ k ≤ r * 10 ^ k := Nat.le_mul_of_pos_left _ hr
    have h4 : (10 : Nat) ^ 19 = 10000000000000000000 := by decide
    omega
theorem pow_step {r k : Nat} (h : r * 10 ^ k ≤ 9223372036854775808) : r / 10 * 10 ^ (k + 1) ≤ 9223372036854775808 := by
  have h1 : r / 10 * 10 ≤ r := Nat.div_mul_le_self r 10
  have h2 : r / 10 * 10 ^ (k + 1) = r / 10 * 10 * 10 ^ k := by rw [Nat.pow_succ, Nat.mul_comm (10 ^ k) 10, Nat.mul_assoc]
  rw [h2]
  exact Nat.le_trans (Nat.mul_le_mul_right _ h1) h
/-- What stands while the digits are set down. -/
def Dig (r : Int) (o : ByteArray) : Prop := o.size ≤ 20 ∧ (o.size = 0 ∨ r.natAbs * 10 ^ (o.size - 1) ≤ 9223372036854775808)
theorem Dig.step {r : Int} {o x : ByteArray} (h : Dig r o) (hc : o.size = 0 ∨ r ≠ 0) (hx : x.size = 1 + o.size) : Dig (IntKind.i64.wrap (r.tdiv 10)) x := by
  obtain ⟨h1, h2⟩ := h
  rcases Nat.eq_zero_or_pos o.size with h0 | h0
  · refine ⟨by omega, .inr ?_⟩
    rw [hx, h0]
    have := wrap_abs (r.tdiv 10)
    simpa using this
  · have h3 := h2.resolve_left (by omega)
    have hr : 0 < r.natAbs := by
      have := hc.resolve_left (by omega)
      omega
    have h4 := pow_le h3 hr
    refine ⟨by omega, .inr ?_⟩
    have h5 : r.natAbs ≤ 9223372036854775808 := Nat.le_trans (Nat.le_mul_of_pos_right _ (Nat.pow_pos (by omega))) h3
    have h6 : (r.tdiv 10).natAbs < 9223372036854775808 := by rw [div10_abs]; omega
    rw [wrap_small h6, div10_abs, hx]
    have := pow_step h3
    rw [show o.size - 1 + 1 = 1 + o.size - 1 by omega] at this
    exact this
theorem Dig.step64 {r : Int} {o x : ByteArray} (h : Dig r o) (hc : o.size = 0 ∨ r ≠ 0) (hx : x.size = 1 + o.size) : Dig (wrap64 (r.tdiv 10)) x := by
  have := h.step hc hx
  rwa [show IntKind.i64.wrap (r.tdiv 10) = wrap64 (r.tdiv 10) by first | rfl | (rw [IntKind.wrap_i64]; rfl) | (unfold wrap64; rw [IntKind.wrap_i64])] at this
def strLen : Value → Nat
  | .string o => o.size
  | _ => 0

set_option maxRecDepth 100000 in
set_option maxHeartbeats 2000000 in
theorem l1Int_some (p : Int) (w : World) :
    Calls Tryd.prog 35 #[.int .i64 p] w fun e w' => ∃ x : ByteArray, e = .returned (.string x) ∧ (1 ≤ x.size ∧ x.size ≤ 30) ∧ Below w.heap.size w w' := by
  go_enter Tryd.func35, Tryd.ntmps35
  go_wp2
  go_loopw [0, 3] (fun q s wr => ∃ (r : Int) (o : ByteArray), q = .int .i64 r ∧ s = .string o ∧ Dig r o ∧ Below w.heap.size w wr) (fun _ s _ => 40 - strLen s)
  case atStart => exact ⟨p, ByteArray.empty, rfl, rfl, ⟨by simp, .inl (by simp)⟩, Below.refl _ _⟩
  case round =>
    obtain ⟨r, o, rfl, rfl, hD, hbel⟩ := hrel
    have hsz := hD.1
    have hcv : ∀ v : Int, (convert 22 9 (.slice (some ⟨wr.heap.size, 0, none⟩) 1 1)).run Tryd.prog (wr.alloc (.cells #[.int .u8 v] 5)) = .ok (.string (strOfNums [v])) (wr.alloc (.cells #[.int .u8 v] 5)) := fun v =>
      run_convert_bytes_arg (P := Tryd.prog) (wr.alloc (.cells #[.int .u8 v] 5)) 22 5 Tryd.underlying22 Tryd.underlying5 wr.heap.size 0 1 1 [v] rfl (fun i hi => by
        obtain rfl : i = 0 := by omega
        simp [go_sem]) 9 Tryd.underlying9
    have hsn := sn_size
    have hs2 : ¬ (9223372036854775807 : Int) < 1 + (o.size : Int) := by omega
    have hbA : ∀ x, Below w.heap.size w (wr.alloc x) := fun x => hbel.alloc hbel.size x
    by_cases h0 : o.size = 0
    · have ho : o = ByteArray.empty := by
        obtain ⟨⟨l⟩⟩ := o
        cases l with
        | nil => rfl
        | cons a l => exact absurd h0 (by simp [ByteArray.size])
      subst ho
      by_cases hn : r.tmod 10 < 0
      · go_wp2
        go_roundw
        case rel => refine ⟨_, _, rfl, rfl, hD.step64 (.inl rfl) ?_, hbA _⟩; rw [sn_size]; rfl
        case measure => simp only [strLen]; rw [sn_size]; simp
      · go_wp2
        go_roundw
        case rel => refine ⟨_, _, rfl, rfl, hD.step64 (.inl rfl) ?_, hbA _⟩; rw [sn_size]; rfl
        case measure => simp only [strLen]; rw [sn_size]; simp
    have hne : (o.toList == []) = false := by
      cases hl : o.toList with
      | nil =>
        have : o.size = o.toList.length := by rw [ByteArray.toList_eq]; simp
        rw [hl] at this
        exact absurd this (by simpa using h0)
      | cons a l => rfl
    have hne2 : ¬ o.toList = [] := by simpa using hne
    by_cases hz : r = 0
    · subst hz
      by_cases hp : p < 0
      · go_wp2
        go_ret
        exact ⟨_, rfl, by rw [ByteArray.size_append, show ({ data := #[45] } : ByteArray).size = 1 from rfl]; omega, hbel⟩
      · go_wp2
        go_ret
        exact ⟨_, rfl, ⟨by omega, by omega⟩, hbel⟩
    by_cases hn : r.tmod 10 < 0
    · go_wp2
      go_roundw
      case rel => refine ⟨_, _, rfl, rfl, hD.step64 (.inr hz) ?_, hbA _⟩; rw [ByteArray.size_append, sn_size]
      case measure => simp only [strLen]; rw [ByteArray.size_append, sn_size]; omega
    · go_wp2
      go_roundw
      case rel => refine ⟨_, _, rfl, rfl, hD.step64 (.inr hz) ?_, hbA _⟩; rw [ByteArray.size_append, sn_size]
      case measure => simp only [strLen]; rw [ByteArray.size_append, sn_size]; omega

end Go.Proofs.YtcmeppjfjledfaaDoor

/-
  l1Show of any map: some text, not too long.
-/
set_option linter.unusedVariables false
set_option linter.unusedSimpArgs false
namespace Go.Proofs.YtcmeppjfjledfaaDoor
open Go.RowKit
attribute [local go_sem ↓] Go.wp_at_zero Go.wp_at_succ

theorem l1Int_sl (p : Int) (w : World) :
    Calls Tryd.prog 35 #[.int .i64 p] w fun e w' => ∃ l : List UInt8, e = .returned (txt l) ∧ (1 ≤ l.length ∧ l.length ≤ 30) ∧ Below w.heap.size w w' := by
  refine (l1Int_some p w).mono ?_
  rintro e w' ⟨x, rfl, hx, hb⟩
  obtain ⟨⟨l⟩⟩ := x
  exact ⟨l, rfl, hx, hb⟩
def arcL (a b c : List UInt8) : List UInt8 := 32 :: (a ++ (32 :: (b ++ (32 :: c))))
theorem arcL_len (a b c : List UInt8) : (arcL a b c).length = 3 + a.length + b.length + c.length := by simp [arcL]; omega
set_option maxRecDepth 20000 in
set_option maxHeartbeats 2000000 in
theorem l1Show_some (p : Int) (ao : Option Addr) (n cap : Nat) (F T G : Nat → Int) (hn : n ≤ 300) (w : World) (hr : Row w ao n F T G) :
    Calls Tryd.prog 17 #[.agg #[.int .i64 p, .slice ao n cap]] w fun e w' => ∃ l : List UInt8, e = .returned (txt l) ∧ l.length ≤ 40000 ∧ Below w.heap.size w w' := by
  have hcb := conv_bytes
  go_enter Tryd.func17, Tryd.ntmps17
  go_wp2_with (go_at_call 35; refine (l1Int_sl p _).mono ?_; rintro e w1 ⟨l0, rfl, hl0, hb1⟩)
  clear hcb
  have hA := hb1.mono (B' := w.heap.size + 1) (by simp)
  have hb0 := brow_new l0 w1 (grownCap w1 l0.length 0 5) (grownCap_ge w1 _ 0 5)
  have hsz1 : w.heap.size + 1 ≤ w1.heap.size := by have := hb1.size; simp at this; omega
  go_loopw [3, 4] (fun b i wr => ∃ k : Nat, k ≤ n ∧ i = .int .i64 k ∧ ∃ g cap' l, b = .slice (some ⟨g, 0, none⟩) (List.length l) cap' ∧ (1 ≤ l.length ∧ l.length ≤ 100 * (k + 1)) ∧ w.heap.size + 1 ≤ g ∧ BRow wr g cap' l ∧ Below (w.heap.size + 1) (w.alloc (.cells #[.int .i64 p, .slice ao n cap] 26)) wr) (fun _ i _ => n - (intOf i).toNat)
  case atStart => exact ⟨0, Nat.zero_le _, rfl, w1.heap.size, _, l0, rfl, ⟨by omega, by omega⟩, hsz1, hb0, (hA.alloc hsz1 _).drew⟩
  case round =>
    clear hb0 hA hb1 hsz1
    obtain ⟨k, hk, rfl, g, cap', l, rfl, hll, hg, hb, hbel⟩ := hrel
    have g0 : wr.cell? ⟨w.heap.size, 0, none⟩ = some (.int .i64 p) := by rw [hbel.cell (by simp)]; simp [go_sem]
    have g1 : wr.cell? ⟨w.heap.size, 1, none⟩ = some (.slice ao n cap) := by rw [hbel.cell (by simp)]; simp [go_sem]
    have hsz : w.heap.size < wr.heap.size := by have := hbel.size; simp at this; omega
    by_cases hlt : k < n
    rotate_left
    · have e : k = n := by omega
      subst e
      have hcv := conv_txt hb
      go_wp2
      go_ret
      exact ⟨l, rfl, by omega, unbox hbel (by omega)⟩
    obtain ⟨b, o, hao, c0, c1, c2⟩ := ((hr.alloc _).below hbel (by simp)) k hlt
    subst hao
    go_wp2
    have hgl : g < wr.heap.size := hb.lt (by omega)
    have hA := (hbel.alloc (by omega) (.cells #[.int .i64 (F k), .int .i64 (T k), .int .i64 (G k)] 37)).drew
    have hbA := (hb.below ((Below.refl wr.heap.size wr).alloc (Nat.le_refl _) (.cells #[.int .i64 (F k), .int .i64 (T k), .int .i64 (G k)] 37)).drew (Nat.le_refl _))
    have Q1 : ∀ a : List UInt8, (1 ≤ a.length ∧ a.length ≤ 30) → ¬ 9223372036854775807 < 1 + a.length := fun a h => by omega
    have Q2 : ∀ a : List UInt8, (1 ≤ a.length ∧ a.length ≤ 30) → ¬ 9223372036854775807 < 1 + a.length + 1 := fun a h => by omega
    have Q3 : ∀ a b : List UInt8, (1 ≤ a.length ∧ a.length ≤ 30) → (1 ≤ b.length ∧ b.length ≤ 30) → ¬ 9223372036854775807 < 1 + a.length + 1 + b.length := fun a b h h' => by omega
    have Q4 : ∀ a b : List UInt8, (1 ≤ a.length ∧ a.length ≤ 30) → (1 ≤ b.length ∧ b.length ≤ 30) → ¬ 9223372036854775807 < 1 + a.length + 1 + b.length + 1 := fun a b h h' => by omega
    have Q5 : ∀ a b c : List UInt8, (1 ≤ a.length ∧ a.length ≤ 30) → (1 ≤ b.length ∧ b.length ≤ 30) → (1 ≤ c.length ∧ c.length ≤ 30) → ¬ 9223372036854775807 < 1 + a.length + 1 + b.length + 1 + c.length := fun a b c h h' h2 => by omega
    have HS1 : w.heap.size + 1 ≤ (w.alloc (.cells #[.int .i64 p, .slice (some ⟨b, o, none⟩) n cap] 26)).heap.size := by simp
    have Q6 : ∀ a b c : List UInt8, (1 ≤ a.length ∧ a.length ≤ 30) → (1 ≤ b.length ∧ b.length ≤ 30) → (1 ≤ c.length ∧ c.length ≤ 30) → l.length + (arcL a b c).length ≤ 1000000000000 := fun a b c h h' h2 => by have := arcL_len a b c; omega
    go_region_held3 (fun w' => w'.cell? ⟨wr.heap.size, 0, none⟩ = some (.int .i64 (F k)) ∧ w'.cell? ⟨wr.heap.size, 1, none⟩ = some (.int .i64 (T k)) ∧ w'.cell? ⟨wr.heap.size, 2, none⟩ = some (.int .i64 (G k)))
      (first | (go_split_ands; refine ⟨?_, ?_, ?_⟩ <;> exact keep_cell ‹_› (Nat.le_refl _) (by assumption)) | (go_split_ands; refine ⟨?_, ?_, ?_⟩ <;> exact hgr5.cell (by assumption) (by simp; omega)) | go_keep)
      (first | (go_at_call_of 35 (Value.int IntKind.i64 (F k)); refine (l1Int_sl (F k) _).mono ?_; rintro e w2 ⟨lF, rfl, hlF, hb2⟩; replace hbA := hbA.below hb2 (Nat.le_refl _); replace hA := below_next hA HS1 hb2; have q1 := Q1 lF hlF; have q2 := Q2 lF hlF) | (go_at_call_of 35 (Value.int IntKind.i64 (T k)); refine (l1Int_sl (T k) _).mono ?_; rintro e w2 ⟨lT, rfl, hlT, hb2⟩; replace hbA := hbA.below hb2 (Nat.le_refl _); replace hA := below_next hA HS1 hb2; have q3 := Q3 lF lT hlF hlT; have q4 := Q4 lF lT hlF hlT) | (go_at_call_of 35 (Value.int IntKind.i64 (G k)); refine (l1Int_sl (G k) _).mono ?_; rintro e w2 ⟨lG, rfl, hlG, hb2⟩; replace hbA := hbA.below hb2 (Nat.le_refl _); replace hA := below_next hA HS1 hb2; have q5 := Q5 lF lT lG hlF hlT hlG) | (refine step_append_txt ?_ (.tmp 22) (.tmp 36) ?_ g cap' l (arcL lF lT lG) ?_ ?_ hbA ?_ (w.heap.size + 1) hg ?_ ?_; rfl; rfl; rfl; exact congrArg Value.string (arc_add _ _ _); exact Q6 lF lT lG hlF hlT hlG; (have := hA.size; simp at this; omega); intro g' cap'' w5 hg' hbB hb5 hgr5))
    go_wp2
    go_roundw
    case rel => exact ⟨k + 1, by omega, by go_num, g', cap'', l ++ arcL lF lT lG, by simp, ⟨by simp; omega, by have := arcL_len lF lT lG; simp; omega⟩, hg', hbB, hA.trans hb5⟩
    case measure => simp [intOf]; omega

end Go.Proofs.YtcmeppjfjledfaaDoor

/-
  A number below a greater bound is drawn: by four bytes.
-/
set_option linter.unusedVariables false
set_option linter.unusedSimpArgs false
namespace Go.Proofs.YtcmeppjfjledfaaDoor
open Go.RowKit
attribute [local go_sem ↓] Go.wp_at_zero Go.wp_at_succ

set_option maxHeartbeats 1000000 in
theorem l1Below_wide (base c : Nat) (ao : Option Addr) (n cap : Nat) (m : Int) (hm0 : 1 ≤ m) (hm : m ≤ 1000000000) (w : World) (hC : CurAt w base c ao n cap) :
    Calls Tryd.prog 41 #[.pointer (some ⟨c, 0, none⟩), .int .i64 m] w fun e w' => ∃ x : Nat, e = .returned (.int .i64 (x : Int)) ∧ (x : Int) < m ∧ CurAt w' base c ao n cap ∧ w.grownBy w' (some c) := by
  by_cases hs : m ≤ 256
  · exact l1Below_any base c ao n cap m hm0 hs w hC
  have hm1 : ¬ m ≤ 0 := by omega
  have hm2 : m ≠ 0 := by omega
  have HB := fun W h => l1Byte_any base c ao n cap W h
  go_enter Tryd.func41, Tryd.ntmps41
  go_wp2_with fail
  refine (HB _ hC).mono ?_
  rintro e w1 ⟨x, rfl, hx0, hx1, hC1, hg1⟩
  go_wp2_with fail
  refine (HB _ hC1).mono ?_
  rintro e w2 ⟨y, rfl, hy0, hy1, hC2, hg2⟩
  go_wp2_with fail
  refine (HB _ hC2).mono ?_
  rintro e w3 ⟨z, rfl, hz0, hz1, hC3, hg3⟩
  go_wp2_with fail
  refine (HB _ hC3).mono ?_
  rintro e w4 ⟨v, rfl, hv0, hv1, hC4, hg4⟩
  have e1 : IntKind.i64.wrap (x * 16777216) = x * 16777216 := by rw [IntKind.wrap_i64]; omega
  have e2 : IntKind.i64.wrap (y * 65536) = y * 65536 := by rw [IntKind.wrap_i64]; omega
  have e3 : IntKind.i64.wrap (x * 16777216 + y * 65536) = x * 16777216 + y * 65536 := by rw [IntKind.wrap_i64]; omega
  have e4 : IntKind.i64.wrap (z * 256) = z * 256 := by rw [IntKind.wrap_i64]; omega
  have e5 : IntKind.i64.wrap (x * 16777216 + y * 65536 + z * 256) = x * 16777216 + y * 65536 + z * 256 := by rw [IntKind.wrap_i64]; omega
  have e6 : IntKind.i64.wrap (x * 16777216 + y * 65536 + z * 256 + v) = x * 16777216 + y * 65536 + z * 256 + v := by rw [IntKind.wrap_i64]; omega
  obtain ⟨s, hs9⟩ : ∃ s, x * 16777216 + y * 65536 + z * 256 + v = s := ⟨_, rfl⟩
  have hs0 : 0 ≤ s := by omega
  have e7 : s.tmod m = s % m := Int.tmod_eq_emod_of_nonneg hs0
  go_wp2
  have h1 := Int.emod_nonneg s hm2
  have h2 := Int.emod_lt_of_pos s (show 0 < m by omega)
  go_ret
  exact ⟨(s % m).toNat, congrArg (fun z => Ending.returned (.int .i64 z)) (by omega), by omega, hC4, ((hg1.trans hg2).trans hg3).trans hg4⟩

end Go.Proofs.YtcmeppjfjledfaaDoor

/-
  Bytes of the call's own: bent, cut, put together.
-/
set_option linter.unusedVariables false
set_option linter.unusedSimpArgs false
namespace Go.Proofs.YtcmeppjfjledfaaDoor
open Go.RowKit

theorem BRow.grown {w w' : World} {g cap x : Nat} {l : List UInt8} (h : BRow w g cap l) (hg : w.grownBy w' (some x)) (hx : g ≠ x) (hl : g < w.heap.size) : BRow w' g cap l := by
  have hb := hg.block g hl (by simp; exact hx)
  obtain ⟨h1, h2, h3⟩ := h
  refine ⟨h1, fun j hj => ?_, fun j c hc => ?_⟩
  · have := h2 j hj
    simp only [World.cell?, World.frozen?] at this ⊢
    rw [hb]
    exact this
  · have := h3 j c hc
    simp only [World.cell?] at this ⊢
    rw [hb]
    exact this
theorem BRow.cut {w : World} {g cap : Nat} {l : List UInt8} (h : BRow w g cap l) (k : Nat) : BRow w g cap (l.take k) := by
  obtain ⟨h1, h2, h3⟩ := h
  refine ⟨by rw [List.length_take]; omega, h2, fun j c hc => h3 j c ?_⟩
  rw [List.getElem?_take] at hc
  split at hc
  · exact hc
  · cases hc
theorem BRow.put {w : World} {g cap : Nat} {l : List UInt8} (h : BRow w g cap l) (k : Nat) (hk : k < l.length) (b : UInt8) : BRow (w.setCell ⟨g, k, none⟩ (.int .u8 (b.toNat : Int))) g cap (l.set k b) := by
  obtain ⟨h1, h2, h3⟩ := h
  have hsm := h3 k _ (List.getElem?_eq_getElem hk)
  obtain ⟨cur, t, fr, hblk⟩ : ∃ cur t fr, w.heap[g]? = some (.cells cur t fr) := by
    simp only [World.cell?] at hsm
    split at hsm
    · rename_i h
      exact ⟨_, _, _, h⟩
    · cases hsm
  have hc9 : cur[k]? = some (.int .u8 (l[k].toNat : Int)) := by simpa [World.cell?, hblk] using hsm
  have hb' : (w.setCell ⟨g, k, none⟩ (.int .u8 (b.toNat : Int))).heap[g]? = some (.cells (cur.setIfInBounds k (.int .u8 (b.toNat : Int))) t fr) := by simp [World.setCell, Array.getElem?_modify, hblk]
  have e1 : ∀ j, (w.setCell ⟨g, k, none⟩ (.int .u8 (b.toNat : Int))).cell? ⟨g, j, none⟩ = (cur.setIfInBounds k (.int .u8 (b.toNat : Int)))[j]? := fun j => by simp [World.cell?, hb']
  have e2 : ∀ j, w.cell? ⟨g, j, none⟩ = cur[j]? := fun j => by simp [World.cell?, hblk]
  have e3 : ∀ j, (w.setCell ⟨g, k, none⟩ (.int .u8 (b.toNat : Int))).frozen? ⟨g, j, none⟩ = w.frozen? ⟨g, j, none⟩ := fun j => by simp [World.frozen?, hblk, hb']
  have hkc : k < cur.size := (Array.getElem?_eq_some_iff.1 hc9).1
  refine ⟨by simpa using h1, fun j hj => ?_, fun j c hc => ?_⟩
  · have := h2 j hj
    rw [e1, e3]
    rw [e2] at this
    refine ⟨?_, this.2⟩
    rw [Array.getElem?_setIfInBounds]
    by_cases e : k = j
    · rw [if_pos e, if_pos (by omega)]
      rfl
    · rw [if_neg e]
      exact this.1
  · rw [List.getElem?_set] at hc
    rw [e1, Array.getElem?_setIfInBounds]
    by_cases e : k = j
    · subst e
      rw [if_pos rfl, if_pos hk] at hc
      obtain rfl := Option.some.inj hc
      rw [if_pos rfl, if_pos hkc]
    · rw [if_neg e] at hc ⊢
      rw [← e2]
      exact h3 j c hc
theorem brow_of_owns {w : World} {base g cap : Nat} {l : List UInt8} (h : w.ownsRow base 5 1 (.slice (some ⟨g, 0, none⟩) l.length cap) l.length (bcells l)) : BRow w g cap l ∧ base ≤ g ∧ g < w.heap.size := by
  obtain ⟨hl, h⟩ := h
  rcases h with ⟨e, _⟩ | ⟨g', cap', cur, e, hb, hblk, hnc, hcm, hsz, ht⟩
  · cases e
  · simp only [Value.slice.injEq, Option.some.injEq, Addr.mk.injEq, and_true, true_and] at e
    obtain ⟨rfl, rfl⟩ := e
    refine ⟨⟨hnc, fun j hj => ?_, fun j c hc => ?_⟩, hb, (Array.getElem?_eq_some_iff.1 hblk).1⟩
    · simp only [World.cell?, World.frozen?, hblk]
      refine ⟨?_, by simp⟩
      rw [Array.getElem?_eq_getElem (by omega)]
      rfl
    · have hjl : j < l.length := (List.getElem?_eq_some_iff.1 hc).1
      simp only [World.cell?, hblk]
      have h3 : (cur.toList.take (l.length * 1))[j]? = some (.int .u8 (c.toNat : Int)) := by rw [ht, bcells_at, hc]; rfl
      rw [List.getElem?_take, if_pos (by omega)] at h3
      simpa using h3
theorem empty_ownsB (w : World) : (w.alloc (.cells #[] 5)).ownsRow w.heap.size 5 1 (.slice (some ⟨w.heap.size, 0, none⟩) 0 0) 0 (bcells []) := by
  have := World.ownsRow_lit (base := w.heap.size) (e := 5) (size := 1) w #[] 0 (by simp) (by simp) (by simp)
  simpa [bcells] using this
/-- Bytes to be read behind a slice. -/
def BSrc (w : World) (so : Option Addr) (ls : List UInt8) : Prop := ∀ j u, (bcells ls)[j]? = some u → ∃ a, so = some a ∧ w.cell? (a.add j) = some u
theorem BRow.src {w : World} {g cap : Nat} {l : List UInt8} (h : BRow w g cap l) : BSrc w (some ⟨g, 0, none⟩) l := fun j u hu => by
  rw [bcells_at] at hu
  simp at hu
  obtain ⟨c, hc, rfl⟩ := hu
  refine ⟨_, rfl, ?_⟩
  rw [Addr.add_mid]
  simpa using h.2.2 j c hc
theorem BRow.src_drop {w : World} {g cap k : Nat} {l : List UInt8} (h : BRow w g cap l) (hk : k ≤ l.length) : BSrc w (if cap = k then some ⟨g, 0, none⟩ else some ⟨g, k, none⟩) (l.drop k) := fun j u hu => by
  rw [bcells_at] at hu
  simp at hu
  obtain ⟨c, hc, rfl⟩ := hu
  have hjl : k + j < l.length := (List.getElem?_eq_some_iff.1 hc).1
  have h1 := h.1
  rw [if_neg (by omega)]
  refine ⟨_, rfl, ?_⟩
  rw [Addr.add_mid]
  exact h.2.2 (k + j) c hc
theorem BSrc.grown {w w' : World} {so : Option Addr} {ls : List UInt8} (h : BSrc w so ls) {B : Nat} (hb : Below B w w') (hB : ∀ a, so = some a → a.block < B) : BSrc w' so ls := fun j u hu => by
  obtain ⟨a, rfl, hc⟩ := h j u hu
  refine ⟨a, rfl, ?_⟩
  have hbk : (a.add j).block = a.block := by unfold Addr.add; split <;> rfl
  rw [hb.cell (by rw [hbk]; exact hB a rfl)]
  exact hc
theorem new_byte (w : World) (b : UInt8) : BSrc (w.alloc (.cells #[.int .u8 (b.toNat : Int)] 5)) (some ⟨w.heap.size, 0, none⟩) [b] := fun j u hu => by
  obtain rfl : j = 0 := by
    rcases Nat.eq_zero_or_pos j with h | h
    · exact h
    · rw [bcells_at, List.getElem?_eq_none (by simp; omega)] at hu; cases hu
  simp [bcells] at hu
  subst hu
  exact ⟨_, rfl, by simp [go_sem]⟩

theorem run_appB_zero (ty : TypeId) (g n cap : Nat) (ao : Option Addr) (c : Nat) (hnc : n ≤ cap) (w : World) : (Builtin.append_ #[22, 22] ty #[.slice (some ⟨g, 0, none⟩) n cap, .slice ao 0 c]).run Tryd.prog w = .ok (.slice (some ⟨g, 0, none⟩) n cap) w := by
  obtain ⟨i0, hi0, hz0, hz1, hz2⟩ := info_parts Tryd.infoByte
  cases ao <;> simp [Builtin.append_, run_underlying Tryd.underlying22, sizeOf, typeInfo, hi0, Builtin.lenOf, Builtin.firstCells, hnc, storeCells, loadCells, loadCellsFrom]

theorem wp_appBy {w : World} {o : Oper} {a : Act} {K : Act → World → Prop} {Q : Exit → Act → World → Prop} (s x : Operand)
    (ho : o.op = .call { callee := .builtin .append, args := #[s, x], argTypes := #[22, 22] })
    (base g0 cap0 : Nat) (l : List UInt8) (hs : a.eval s = .slice (some ⟨g0, 0, none⟩) l.length cap0) (hown : w.ownsRow base 5 1 (.slice (some ⟨g0, 0, none⟩) l.length cap0) l.length (bcells l))
    (so : Option Addr) (c : Nat) (ls : List UInt8) (hx : a.eval x = .slice so ls.length c) (hr : BSrc w so ls) (hm : l.length + ls.length ≤ 1000000) (hbase : base ≤ w.heap.size)
    (h : ∀ g cap w', w'.ownsRow base 5 1 (.slice (some ⟨g, 0, none⟩) (l ++ ls).length cap) (l ++ ls).length (bcells (l ++ ls)) → Below base w w' → K (a.put o.dst (.slice (some ⟨g, 0, none⟩) (l ++ ls).length cap)) w') : o.wp Tryd.prog a w K Q := by
  have hg0 : base ≤ g0 ∧ l.length ≤ cap0 := by
    rcases hown.2 with ⟨e, _⟩ | ⟨g, cap, cur, e, h1, _, h2, _⟩
    · cases e
    · simp only [Value.slice.injEq, Option.some.injEq, Addr.mk.injEq, and_true, true_and] at e
      obtain ⟨rfl, rfl⟩ := e
      exact ⟨h1, h2⟩
  have hap : bcells l ++ bcells ls = bcells (l ++ ls) := by simp [bcells]
  have hlen : (l ++ ls).length = l.length + ls.length := by simp
  by_cases hz : 0 < ls.length
  · obtain ⟨a1, rfl, _⟩ := hr 0 _ (by rw [bcells_at, List.getElem?_eq_getElem hz]; rfl)
    obtain ⟨i0, hi0, hz0, hz1, hz2⟩ := info_parts Tryd.infoByte
    refine wp_append_lies w s x _ ho base 5 i0 _ 1 1 Tryd.underlying22 hi0 hz0 hz1 hz2 rfl (by omega) _ l.length (bcells l) hs hown a1 ls.length c (bcells ls) hx (by simp [bcells]) (fun j u hu => by
      obtain ⟨a2, e, hc⟩ := hr j u hu
      obtain rfl := Option.some.inj e
      exact hc) (fun u hu => by
      simp only [bcells, List.mem_map] at hu
      obtain ⟨b, _, rfl⟩ := hu
      rfl) hz (by unfold maxLen; omega) (by omega) hbase w.heap.size rfl ?_
    intro g cap w' hown' hgrow _ _
    rw [← hlen, hap] at hown'
    have := h g cap w' hown' (gr_below (b := g0) hgrow hg0.1 hbase)
    rw [hlen] at this
    exact this
  · obtain rfl : ls = [] := List.eq_nil_of_length_eq_zero (by omega)
    have hrun := run_appB_zero o.type g0 l.length cap0 so c hg0.2 w
    have hx' : a.eval x = .slice so 0 c := hx
    unfold Oper.wp execOp
    simp only [ho, resolve, invoke, builtin, Sem.run_bind, Sem.run_pure, Result.andThen_ok, List.map_toArray, List.map_cons, List.map_nil, hs, hx', hrun]
    have := h g0 cap0 w (by rw [List.append_nil]; exact hown) (Below.refl _ _)
    rw [List.append_nil] at this
    exact this

end Go.Proofs.YtcmeppjfjledfaaDoor

/-
  l1Bend: some text comes, not much longer.
-/
set_option linter.unusedVariables false
set_option linter.unusedSimpArgs false
namespace Go.Proofs.YtcmeppjfjledfaaDoor
open Go.RowKit
attribute [local go_sem ↓] Go.wp_at_zero Go.wp_at_succ

theorem grB_then {w w1 w2 : World} {row : Option Nat} {B : Nat} (h : w.grownBy w1 row) (hb : Below B w1 w2) (hB : w.heap.size ≤ B) : w.grownBy w2 row :=
  ⟨hb.os.trans h.os, hb.tape.trans h.tape, hb.output.trans h.output, Nat.le_trans h.size hb.size, fun k hk hne => (hb.block k (by omega)).trans (h.block k hk hne)⟩
theorem CurAt.keepB {w w' : World} {base c B : Nat} {ao : Option Addr} {n cap : Nat} (h : CurAt w base c ao n cap) (hb : Below B w w') (hB : c < B) : CurAt w' base c ao n cap := by
  obtain ⟨hge, hlen, hby, i, h0, h1, h2, hv⟩ := h
  exact ⟨hge, hlen, hby.below hb (by omega), i, h0, h1, h2, hv.below hb hB⟩
theorem owns_grB {w w' : World} {base : Nat} {e : TypeId} {size x : Nat} {v : Value} {k : Nat} {xs : List Value} (h : w.ownsRow base e size v k xs) (hg : w.grownBy w' (some x)) (hx : x < base) : w'.ownsRow base e size v k xs := by
  obtain ⟨hl, ho⟩ := h
  refine ⟨hl, ?_⟩
  rcases ho with h | ⟨g, cap, cur, e, hb, hblk, h1, h2, h3, h4⟩
  · exact .inl h
  · exact .inr ⟨g, cap, cur, e, hb, by rw [hg.block g (Array.getElem?_eq_some_iff.1 hblk).1 (by simp; omega)]; exact hblk, h1, h2, h3, h4⟩
theorem owns_alB {w : World} {base : Nat} {e : TypeId} {size : Nat} {v : Value} {k : Nat} {xs : List Value} (h : w.ownsRow base e size v k xs) (o : Obj) : (w.alloc o).ownsRow base e size v k xs := by
  obtain ⟨hl, ho⟩ := h
  refine ⟨hl, ?_⟩
  rcases ho with h | ⟨g, cap, cur, e, hb, hblk, h1, h2, h3, h4⟩
  · exact .inl h
  · exact .inr ⟨g, cap, cur, e, hb, by rw [((Below.refl w.heap.size w).alloc (Nat.le_refl _) o).block g (Array.getElem?_eq_some_iff.1 hblk).1]; exact hblk, h1, h2, h3, h4⟩
theorem BSrc.blk {w w' : World} {so : Option Addr} {ls : List UInt8} (h : BSrc w so ls) (hB : ∀ a, so = some a → w'.heap[a.block]? = w.heap[a.block]?) : BSrc w' so ls := fun j u hu => by
  obtain ⟨a, rfl, hc⟩ := h j u hu
  refine ⟨a, rfl, ?_⟩
  have hbk : (a.add j).block = a.block := by unfold Addr.add; split <;> rfl
  have := hB a rfl
  rw [← hbk] at this
  simp only [World.cell?] at hc ⊢
  rw [this]
  exact hc
/-- What stands while a text is bent. -/
structure Bnt (w : World) (base c : Nat) (ao : Option Addr) (n cap : Nat) (wr : World) (g bc : Nat) (l : List UInt8) : Prop where
  row : BRow wr g bc l
  ge : w.heap.size ≤ g
  lt : g < wr.heap.size
  cur : CurAt wr base c ao n cap
  gr : w.grownBy wr (some c)
theorem Bnt.draw {w wr w' : World} {base c n cap g bc : Nat} {ao : Option Addr} {l : List UInt8} (h : Bnt w base c ao n cap wr g bc l) (hcl : c < w.heap.size) (hC : CurAt w' base c ao n cap) (hg : wr.grownBy w' (some c)) : Bnt w base c ao n cap w' g bc l :=
  ⟨h.row.grown hg (by have := h.ge; omega) h.lt, h.ge, Nat.lt_of_lt_of_le h.lt hg.size, hC, h.gr.trans hg⟩

set_option maxRecDepth 100000 in
set_option maxHeartbeats 4000000 in
theorem l1Bend_some (base c : Nat) (ao : Option Addr) (n cap : Nat) (ls : List UInt8) (hs : ls.length ≤ 50000) (w : World) (hC : CurAt w base c ao n cap) :
    Calls Tryd.prog 27 #[.pointer (some ⟨c, 0, none⟩), txt ls, .string { data := #[48, 49, 50, 57, 32, 45, 120] }] w fun e w' => ∃ l : List UInt8, e = .returned (txt l) ∧ l.length ≤ 60000 ∧ CurAt w' base c ao n cap ∧ w.grownBy w' (some c) := by
  have hcb := conv_bytes
  have hcl := hC.lt
  have hb0 := brow_new ls w (grownCap w ls.length 0 5) (grownCap_ge w _ 0 5)
  have hal0 := ((Below.refl w.heap.size w).alloc (Nat.le_refl _) (.cells (bytesRow ⟨ls.toArray⟩ (grownCap w ls.length 0 5)) 5 ((bytesRow ⟨ls.toArray⟩ (grownCap w ls.length 0 5)).size, (bytesRow ⟨ls.toArray⟩ (grownCap w ls.length 0 5)).size + 1))).drew
  have hB0 : Bnt w base c ao n cap _ w.heap.size (grownCap w ls.length 0 5) ls := ⟨hb0, Nat.le_refl _, by simp, hC.next hal0, ⟨hal0.os, hal0.tape, hal0.output, hal0.size, fun k hk _ => hal0.block k hk⟩⟩
  clear hb0 hal0
  go_enter Tryd.func27, Tryd.ntmps27
  go_wp2_with fail
  refine (l1Below_any base c ao n cap 3 (by omega) (by omega) _ hB0.cur).mono ?_
  rintro e w1 ⟨x, rfl, hx, hC1, hg1⟩
  have hB1 := hB0.draw hcl hC1 hg1
  clear hcb hB0 hC1 hg1
  go_wp2
  go_loopw [7, 8] (fun a q wr => ∃ (g bc r : Nat) (l : List UInt8), a = .slice (some ⟨g, 0, none⟩) l.length bc ∧ q = .int .i64 r ∧ r + l.length ≤ 50003 ∧ Bnt w base c ao n cap wr g bc l) (fun _ q _ => (intOf q).toNat)
  case atStart => exact ⟨_, _, x, ls, rfl, rfl, by omega, hB1⟩
  case round =>
    obtain ⟨g, bc, r, l, rfl, rfl, hrl, hB⟩ := hrel
    have hcv := conv_txt hB.row
    by_cases hz : 0 < r
    rotate_left
    · obtain rfl : r = 0 := by omega
      go_wp2
      go_ret
      exact ⟨l, rfl, by omega, hB.cur, hB.gr⟩
    have hz' : (0 : Int) < (r : Int) := by omega
    by_cases hl0 : 0 < l.length
    rotate_left
    · obtain rfl : l = [] := List.eq_nil_of_length_eq_zero (by omega)
      simp only [List.length_nil] at hcv
      go_wp2
      go_ret
      exact ⟨[], rfl, by simp, hB.cur, hB.gr⟩
    clear hcv
    have hl0' : (0 : Int) < (l.length : Int) := by omega
    have hrw : IntKind.i64.wrap ((r : Int) - 1) = ((r - 1 : Nat) : Int) := by rw [IntKind.wrap_i64]; omega
    go_wp2_with fail
    refine (l1Below_wide base c ao n cap (l.length : Int) (by omega) (by omega) _ hB.cur).mono ?_
    rintro e w2 ⟨k, rfl, hk, hC2, hg2⟩
    have hB2 := hB.draw hcl hC2 hg2
    clear hB hC2 hg2
    go_wp2_with fail
    refine (l1Below_any base c ao n cap 4 (by omega) (by omega) _ hB2.cur).mono ?_
    rintro e w3 ⟨y, rfl, hy, hC3, hg3⟩
    have hB3 := hB2.draw hcl hC3 hg3
    clear hB2 hC3 hg3
    have hkl : k < l.length := by omega
    have hbc := hB3.row.1
    have hcase : y = 0 ∨ y = 1 ∨ y = 2 ∨ y = 3 := by omega
    rcases hcase with rfl | rfl | rfl | rfl
    · go_wp2_with fail
      refine (l1Below_any base c ao n cap 7 (by omega) (by omega) _ hB3.cur).mono ?_
      rintro e w4 ⟨v, rfl, hv, hC4, hg4⟩
      have hB4 := hB3.draw hcl hC4 hg4
      clear hB3 hC4 hg4
      have hkc : k < bc := by omega
      have c0 := hB4.row.2.2 k _ (List.getElem?_eq_getElem hkl)
      have z0 := (hB4.row.2.1 k hkc).2
      have hv2 : v < 7 := by omega
      have hv3 : (v : Int) < 7 := by omega
      obtain ⟨bt, hbt⟩ : ∃ bt : UInt8, ∀ (W : World), (Instr.index 9 (.string { data := #[48, 49, 50, 57, 32, 45, 120] }) (.int .i64 (v : Int))).run Tryd.prog W = .ok (.int .u8 (bt.toNat : Int)) W := by
        refine ⟨({ data := #[48, 49, 50, 57, 32, 45, 120] } : ByteArray)[v]'(by show v < 7; exact hv2), fun W => ?_⟩
        rw [run_index_string W 9 _ _ _ Tryd.underlying9, dif_pos ⟨by omega, by show (v : Int) < 7; exact hv3⟩]
        rfl
      have R := hB4.row.put k hkl bt
      have hge := hB4.ge
      have hcne : c ≠ g := by omega
      have S1 : w.grownBy (w4.setCell ⟨g, k, none⟩ (.int .u8 (bt.toNat : Int))) (some c) := grB_then hB4.gr ((Below.refl w.heap.size w4).setCell (p := ⟨g, k, none⟩) hge _) (Nat.le_refl _)
      have S2 : CurAt (w4.setCell ⟨g, k, none⟩ (.int .u8 (bt.toNat : Int))) base c ao n cap := hB4.cur.keepB ((Below.refl w.heap.size w4).setCell (p := ⟨g, k, none⟩) hge _) hcl
      have S3 : g < (w4.setCell ⟨g, k, none⟩ (.int .u8 (bt.toNat : Int))).heap.size := by have := hB4.lt; simpa [World.setCell] using this
      have hlk : (l.set k bt).length = l.length := by simp
      clear hB4
      go_wp2
      go_roundw
      case rel => exact ⟨g, bc, r - 1, l.set k bt, by rw [hlk], by go_num, by rw [hlk]; omega, ⟨R, hge, S3, S2, S1⟩⟩
      case measure => simp [intOf]; omega
    · have hlk : (l.take k).length = k := by rw [List.length_take]; omega
      have f1 : (k : Int) ≤ (bc : Int) := by omega
      go_wp2
      go_roundw
      case rel => exact ⟨g, bc, r - 1, l.take k, by rw [hlk], by go_num, by rw [hlk]; omega, ⟨hB3.row.cut k, hB3.ge, hB3.lt, hB3.cur, hB3.gr⟩⟩
      case measure => simp [intOf]; omega
    · have f1 : (k : Int) ≤ (bc : Int) := by omega
      have f2 : IntKind.i64.wrap ((k : Int) + 1) = (k : Int) + 1 := by rw [IntKind.wrap_i64]; omega
      have f3 : ((k : Int) + 1).toNat = k + 1 := by omega
      have f4 : (k : Int) + 1 ≤ (l.length : Int) := by omega
      have hlk : (l.take k).length = k := by rw [List.length_take]; omega
      have hld : (l.drop (k + 1)).length = l.length - (k + 1) := by rw [List.length_drop]
      have s1 := (hB3.row.cut k).src
      have s2 := hB3.row.src_drop (k := k + 1) (by omega)
      obtain ⟨so, hso⟩ : ∃ so, (if bc = k + 1 then some (⟨g, 0, none⟩ : Addr) else some ⟨g, k + 1, none⟩) = so := ⟨_, rfl⟩
      have hsoB : ∀ a, so = some a → a.block < w3.heap.size := fun a ha => by
        rw [← hso] at ha
        have := hB3.lt
        split at ha <;> · obtain rfl := Option.some.inj ha; simpa using this
      rw [hso] at s2
      have hwl := hB3.gr.size
      have hgl := hB3.lt
      go_wp2_with fail
      refine wp_region_held_drew (S := fun _ => True) (by kernel_rfl) trivial (fun _ => ?_)
      refine takeH 1 (some 48) (.slice (some ⟨g, 0, none⟩) l.length bc) rfl rfl (by kernel_rfl) (by kernel_rfl) (by kernel_rfl) (fun _ _ _ h => h) (by rfl) trivial (fun w _ => by go_simp <;> first | omega | (rw [IntKind.wrap_i64]; omega)) ?_
      simp only [Act.put, List.setIfInBounds_toArray, List.set_cons_zero, List.set_cons_succ]
      refine takeH 2 (some 49) (.int .i64 (k : Int)) rfl rfl (by kernel_rfl) (by kernel_rfl) (by kernel_rfl) (fun _ _ _ h => h) (by rfl) trivial (fun w _ => by go_simp <;> first | omega | (rw [IntKind.wrap_i64]; omega)) ?_
      simp only [Act.put, List.setIfInBounds_toArray, List.set_cons_zero, List.set_cons_succ]
      refine takeH 3 (some 50) (.slice (some ⟨g, 0, none⟩) k bc) rfl rfl (by kernel_rfl) (by kernel_rfl) (by kernel_rfl) (fun _ _ _ h => h) (by rfl) trivial (fun w _ => by go_simp <;> first | omega | (rw [IntKind.wrap_i64]; omega)) ?_
      simp only [Act.put, List.setIfInBounds_toArray, List.set_cons_zero, List.set_cons_succ]
      refine takeH 5 (some 52) (.slice (some ⟨g, 0, none⟩) l.length bc) rfl rfl (by kernel_rfl) (by kernel_rfl) (by kernel_rfl) (fun _ _ _ h => h) (by rfl) trivial (fun w _ => by go_simp <;> first | omega | (rw [IntKind.wrap_i64]; omega)) ?_
      simp only [Act.put, List.setIfInBounds_toArray, List.set_cons_zero, List.set_cons_succ]
      refine takeH 6 (some 53) (.int .i64 (k : Int)) rfl rfl (by kernel_rfl) (by kernel_rfl) (by kernel_rfl) (fun _ _ _ h => h) (by rfl) trivial (fun w _ => by go_simp <;> first | omega | (rw [IntKind.wrap_i64]; omega)) ?_
      simp only [Act.put, List.setIfInBounds_toArray, List.set_cons_zero, List.set_cons_succ]
      refine takeH 7 (some 54) (.int .i64 ((k : Int) + 1)) rfl rfl (by kernel_rfl) (by kernel_rfl) (by kernel_rfl) (fun _ _ _ h => h) (by rfl) trivial (fun w _ => by go_simp <;> first | omega | (rw [IntKind.wrap_i64]; omega)) ?_
      simp only [Act.put, List.setIfInBounds_toArray, List.set_cons_zero, List.set_cons_succ]
      refine takeH 8 (some 55) (.slice so (l.length - (k + 1)) (bc - (k + 1))) rfl rfl (by kernel_rfl) (by kernel_rfl) (by kernel_rfl) (fun _ _ _ h => h) (by rfl) trivial (fun w _ => by rw [← hso]; go_simp <;> first | omega | (rw [IntKind.wrap_i64]; omega)) ?_
      simp only [Act.put, List.setIfInBounds_toArray, List.set_cons_zero, List.set_cons_succ]
      refine step1H 0 _ rfl (by kernel_rfl) (by rfl) ?_
      go_simp
      have hZ : Below w3.heap.size w3 ((w3.alloc (.cells #[] 5)).drew) := ((Below.refl _ _).alloc (Nat.le_refl _) _).drew
      refine step1H 4 _ rfl (by kernel_rfl) (by rfl) ?_
      refine wp_appBy _ _ rfl w3.heap.size w3.heap.size 0 [] rfl (empty_ownsB w3) (some ⟨g, 0, none⟩) bc (l.take k) (by rw [hlk]; rfl) (s1.grown hZ (fun a ha => by obtain rfl := Option.some.inj ha; exact hgl)) (by rw [hlk]; simp; omega) (by simp) ?_
      intro g4 cap4 w4 hown4 hb4
      have hZ4 : Below w3.heap.size w3 w4 := hZ.trans hb4
      refine ⟨trivial, ?_⟩
      refine step1H 9 _ rfl (by kernel_rfl) (by rfl) ?_
      refine wp_appBy _ _ rfl w3.heap.size g4 cap4 ([] ++ l.take k) rfl hown4 so (bc - (k + 1)) (l.drop (k + 1)) (by rw [hld]; rfl) (s2.grown hZ4 hsoB) (by simp; omega) hZ4.size ?_
      intro g5 cap5 w5 hown5 hb5
      refine ⟨trivial, ?_⟩
      have hZ5 : Below w3.heap.size w3 w5 := hZ4.trans hb5
      have hR5 := brow_of_owns hown5
      have hl5 : ([] ++ l.take k ++ l.drop (k + 1)).length = l.length - 1 := by simp; omega
      refine takeH 10 (some 7) (.slice (some ⟨g5, 0, none⟩) ([] ++ l.take k ++ l.drop (k + 1)).length cap5) rfl rfl (by kernel_rfl) (by kernel_rfl) (by kernel_rfl) (fun _ _ _ h => h) (by rfl) trivial (fun w _ => by go_simp) ?_
      simp only [Act.put, List.setIfInBounds_toArray, List.set_cons_zero, List.set_cons_succ]
      refine wpAnyH_done (by kernel_rfl) ?_ _
      have hBn : Bnt w base c ao n cap w5 g5 cap5 ([] ++ l.take k ++ l.drop (k + 1)) := ⟨hR5.1, Nat.le_trans hwl hR5.2.1, hR5.2.2, hB3.cur.keepB hZ5 (by omega), grB_then hB3.gr hZ5 hwl⟩
      generalize ([] ++ l.take k ++ l.drop (k + 1)) = lx at hBn hl5 ⊢
      clear hown4 hown5 hR5 s1 s2 hB3
      go_wp2
      go_roundw
      case rel => exact ⟨g5, cap5, r - 1, lx, by rw [hl5], by go_num, by omega, hBn⟩
      case measure => simp [intOf]; omega
    · have f1 : (k : Int) ≤ (bc : Int) := by omega
      have f4 : (k : Int) ≤ (l.length : Int) := by omega
      have hlk : (l.take k).length = k := by rw [List.length_take]; omega
      have hld : (l.drop k).length = l.length - k := by rw [List.length_drop]
      have s1 := (hB3.row.cut k).src
      have s2 := hB3.row.src_drop (k := k) (by omega)
      obtain ⟨so, hso⟩ : ∃ so, (if bc = k then some (⟨g, 0, none⟩ : Addr) else some ⟨g, k, none⟩) = so := ⟨_, rfl⟩
      have hsoB : ∀ a, so = some a → a.block = g := fun a ha => by
        rw [← hso] at ha
        split at ha <;> · obtain rfl := Option.some.inj ha; rfl
      rw [hso] at s2
      have hwl := hB3.gr.size
      have hgl := hB3.lt
      have hge := hB3.ge
      go_wp2_with fail
      refine wp_region_held_drew (S := fun _ => True) (by kernel_rfl) trivial (fun _ => ?_)
      refine takeH 1 (some 60) (.slice (some ⟨g, 0, none⟩) l.length bc) rfl rfl (by kernel_rfl) (by kernel_rfl) (by kernel_rfl) (fun _ _ _ h => h) (by rfl) trivial (fun w _ => by go_simp <;> first | omega | (rw [IntKind.wrap_i64]; omega)) ?_
      simp only [Act.put, List.setIfInBounds_toArray, List.set_cons_zero, List.set_cons_succ]
      refine takeH 2 (some 61) (.int .i64 (k : Int)) rfl rfl (by kernel_rfl) (by kernel_rfl) (by kernel_rfl) (fun _ _ _ h => h) (by rfl) trivial (fun w _ => by go_simp <;> first | omega | (rw [IntKind.wrap_i64]; omega)) ?_
      simp only [Act.put, List.setIfInBounds_toArray, List.set_cons_zero, List.set_cons_succ]
      refine takeH 3 (some 62) (.slice (some ⟨g, 0, none⟩) k bc) rfl rfl (by kernel_rfl) (by kernel_rfl) (by kernel_rfl) (fun _ _ _ h => h) (by rfl) trivial (fun w _ => by go_simp <;> first | omega | (rw [IntKind.wrap_i64]; omega)) ?_
      simp only [Act.put, List.setIfInBounds_toArray, List.set_cons_zero, List.set_cons_succ]
      refine takeH 5 (some 64) (.string { data := #[48, 49, 50, 57, 32, 45, 120] }) rfl rfl (by kernel_rfl) (by kernel_rfl) (by kernel_rfl) (fun _ _ _ h => h) (by rfl) trivial (fun w _ => by go_simp <;> first | omega | (rw [IntKind.wrap_i64]; omega)) ?_
      simp only [Act.put, List.setIfInBounds_toArray, List.set_cons_zero, List.set_cons_succ]
      refine takeH 6 (some 65) (.pointer (some ⟨c, 0, none⟩)) rfl rfl (by kernel_rfl) (by kernel_rfl) (by kernel_rfl) (fun _ _ _ h => h) (by rfl) trivial (fun w _ => by go_simp <;> first | omega | (rw [IntKind.wrap_i64]; omega)) ?_
      simp only [Act.put, List.setIfInBounds_toArray, List.set_cons_zero, List.set_cons_succ]
      refine takeH 7 (some 66) (.string { data := #[48, 49, 50, 57, 32, 45, 120] }) rfl rfl (by kernel_rfl) (by kernel_rfl) (by kernel_rfl) (fun _ _ _ h => h) (by rfl) trivial (fun w _ => by go_simp <;> first | omega | (rw [IntKind.wrap_i64]; omega)) ?_
      simp only [Act.put, List.setIfInBounds_toArray, List.set_cons_zero, List.set_cons_succ]
      refine takeH 8 (some 67) (.int .i64 7) rfl rfl (by kernel_rfl) (by kernel_rfl) (by kernel_rfl) (fun _ _ _ h => h) (by rfl) trivial (fun w _ => by go_simp <;> first | omega | (rw [IntKind.wrap_i64]; omega)) ?_
      simp only [Act.put, List.setIfInBounds_toArray, List.set_cons_zero, List.set_cons_succ]
      refine takeH 13 (some 72) (.slice (some ⟨g, 0, none⟩) l.length bc) rfl rfl (by kernel_rfl) (by kernel_rfl) (by kernel_rfl) (fun _ _ _ h => h) (by rfl) trivial (fun w _ => by go_simp <;> first | omega | (rw [IntKind.wrap_i64]; omega)) ?_
      simp only [Act.put, List.setIfInBounds_toArray, List.set_cons_zero, List.set_cons_succ]
      refine takeH 14 (some 73) (.int .i64 (k : Int)) rfl rfl (by kernel_rfl) (by kernel_rfl) (by kernel_rfl) (fun _ _ _ h => h) (by rfl) trivial (fun w _ => by go_simp <;> first | omega | (rw [IntKind.wrap_i64]; omega)) ?_
      simp only [Act.put, List.setIfInBounds_toArray, List.set_cons_zero, List.set_cons_succ]
      refine takeH 15 (some 74) (.slice so (l.length - k) (bc - k)) rfl rfl (by kernel_rfl) (by kernel_rfl) (by kernel_rfl) (fun _ _ _ h => h) (by rfl) trivial (fun w _ => by rw [← hso]; go_simp <;> first | omega | (rw [IntKind.wrap_i64]; omega)) ?_
      simp only [Act.put, List.setIfInBounds_toArray, List.set_cons_zero, List.set_cons_succ]
      refine step1H 0 _ rfl (by kernel_rfl) (by rfl) ?_
      go_simp
      have hZ : Below w3.heap.size w3 ((w3.alloc (.cells #[] 5)).drew) := ((Below.refl _ _).alloc (Nat.le_refl _) _).drew
      refine step1H 4 _ rfl (by kernel_rfl) (by rfl) ?_
      refine wp_appBy _ _ rfl w3.heap.size w3.heap.size 0 [] rfl (empty_ownsB w3) (some ⟨g, 0, none⟩) bc (l.take k) (by rw [hlk]; rfl) (s1.grown hZ (fun a ha => by obtain rfl := Option.some.inj ha; exact hgl)) (by rw [hlk]; simp; omega) (by simp) ?_
      intro g4 cap4 w4 hown4 hb4
      simp only [List.nil_append] at hown4 ⊢
      rw [hlk]
      have hZ4 : Below w3.heap.size w3 w4 := hZ.trans hb4
      refine ⟨trivial, ?_⟩
      refine step1H 9 _ rfl (by kernel_rfl) (by rfl) ?_
      go_simp
      refine (l1Below_any base c ao n cap 7 (by omega) (by omega) _ (hB3.cur.keepB hZ4 (by omega))).mono ?_
      rintro e w5 ⟨v, rfl, hv, hC5, hg5⟩
      have hv2 : v < 7 := by omega
      have hv3 : (v : Int) < 7 := by omega
      obtain ⟨bt, hbt⟩ : ∃ bt : UInt8, ∀ (W : World), (Instr.index 9 (.string { data := #[48, 49, 50, 57, 32, 45, 120] }) (.int .i64 (v : Int))).run Tryd.prog W = .ok (.int .u8 (bt.toNat : Int)) W := by
        refine ⟨({ data := #[48, 49, 50, 57, 32, 45, 120] } : ByteArray)[v]'(by show v < 7; exact hv2), fun W => ?_⟩
        rw [run_index_string W 9 _ _ _ Tryd.underlying9, dif_pos ⟨by omega, by show (v : Int) < 7; exact hv3⟩]
        rfl
      have hown5 := owns_grB hown4 hg5 (by omega)
      have hgr5 : w.grownBy w5 (some c) := (grB_then hB3.gr hZ4 hwl).trans hg5
      have hz5 : w3.heap.size ≤ w5.heap.size := Nat.le_trans hZ4.size hg5.size
      have s5 : BSrc w5 so (l.drop k) := s2.blk (fun a ha => by
        have hag := hsoB a ha
        rw [hag, hg5.block g (Nat.lt_of_lt_of_le hgl hZ4.size) (by simp; omega), hZ4.block g hgl])
      refine takeH 10 (some 69) (.int .u8 (bt.toNat : Int)) rfl rfl (by kernel_rfl) (by kernel_rfl) (by kernel_rfl) (fun _ _ _ h => h) (by rfl) trivial (fun w _ => by go_simp <;> first | omega | (rw [IntKind.wrap_i64]; omega)) ?_
      simp only [Act.put, List.setIfInBounds_toArray, List.set_cons_zero, List.set_cons_succ]
      refine step1H 11 _ rfl (by kernel_rfl) (by rfl) ?_
      go_simp
      have hZ6 : Below w3.heap.size w5 (w5.alloc (.cells #[.int .u8 (bt.toNat : Int)] 5)) := (Below.refl _ _).alloc hz5 _
      refine step1H 12 _ rfl (by kernel_rfl) (by rfl) ?_
      refine wp_appBy _ _ rfl w3.heap.size g4 cap4 (l.take k) (by rw [hlk]; rfl) (owns_alB hown5 _) (some ⟨w5.heap.size, 0, none⟩) 1 [bt] rfl (new_byte w5 bt) (by simp; omega) (by simp; omega) ?_
      intro g6 cap6 w6 hown6 hb6
      have hZ56 : Below w3.heap.size w5 w6 := hZ6.trans hb6
      refine ⟨trivial, ?_⟩
      refine step1H 16 _ rfl (by kernel_rfl) (by rfl) ?_
      refine wp_appBy _ _ rfl w3.heap.size g6 cap6 (l.take k ++ [bt]) rfl hown6 so (bc - k) (l.drop k) (by rw [hld]; rfl) (s5.grown hZ56 (fun a ha => by rw [hsoB a ha]; exact hgl)) (by simp; omega) (Nat.le_trans hz5 hZ56.size) ?_
      intro g7 cap7 w7 hown7 hb7
      refine ⟨trivial, ?_⟩
      have hZ57 : Below w3.heap.size w5 w7 := hZ56.trans hb7
      have hR7 := brow_of_owns hown7
      have hl7 : (l.take k ++ [bt] ++ l.drop k).length = l.length + 1 := by simp; omega
      refine takeH 17 (some 7) (.slice (some ⟨g7, 0, none⟩) (l.take k ++ [bt] ++ l.drop k).length cap7) rfl rfl (by kernel_rfl) (by kernel_rfl) (by kernel_rfl) (fun _ _ _ h => h) (by rfl) trivial (fun w _ => by go_simp) ?_
      simp only [Act.put, List.setIfInBounds_toArray, List.set_cons_zero, List.set_cons_succ]
      refine wpAnyH_done (by kernel_rfl) ?_ _
      have hBn : Bnt w base c ao n cap w7 g7 cap7 (l.take k ++ [bt] ++ l.drop k) := ⟨hR7.1, Nat.le_trans hwl hR7.2.1, hR7.2.2, hC5.keepB hZ57 (by omega), grB_then hgr5 hZ57 hwl⟩
      generalize (l.take k ++ [bt] ++ l.drop k) = lx at hBn hl7 ⊢
      clear hown4 hown5 hown6 hown7 hR7 s1 s2 s5 hB3
      go_wp2
      go_roundw
      case rel => exact ⟨g7, cap7, r - 1, lx, by rw [hl7], by go_num, by omega, hBn⟩
      case measure => simp [intOf]; omega

end Go.Proofs.YtcmeppjfjledfaaDoor

/-
  The document's draw of a map's text.
-/
set_option linter.unusedVariables false
set_option linter.unusedSimpArgs false
namespace Go.Proofs.YtcmeppjfjledfaaDoor
open Go.RowKit
attribute [local go_sem ↓] Go.wp_at_zero Go.wp_at_succ

set_option maxHeartbeats 1000000 in
theorem drawReadGraph_any (ao : Option Addr) (n cap : Nat) (hn : n ≤ 4096) (w : World) (hr : ByRow w w.heap.size ao n) :
    Calls Tryd.prog 11 #[.slice ao n cap] w fun e w' => ∃ l : List UInt8, e = .returned (txt l) ∧ l.length ≤ 60000 ∧ Below w.heap.size w w' := by
  go_enter Tryd.func11, Tryd.ntmps11
  go_wp2_with fail
  refine (l1New_any ao n cap hn _ hr).mono ?_
  rintro e w1 ⟨c, rfl, hC1, hb1⟩
  have hcg := hC1.ge
  have hcl1 := hC1.lt
  go_wp2_with fail
  refine (l1DrawAny_any _ c ao n cap _ hC1).mono ?_
  rintro e w2 ⟨p, go, k, gc, rfl, hk, hO2, hC2, hg2⟩
  have hA2 : Below w.heap.size w w2 := hb1.trans (gr_below hg2 hcg hb1.size)
  obtain ⟨F, T, G, hrow, _⟩ := hO2.row
  go_wp2_with fail
  refine (l1Show_some p go k gc F T G (by omega) _ hrow).mono ?_
  rintro e w3 ⟨l, rfl, hl, hb3⟩
  have hA3 := below_next hA2 (Nat.le_refl _) hb3
  have hC3 := hC2.next hb3
  clear hO2 hC2 hrow hb3 hg2
  go_wp2_with fail
  refine (l1Once_any _ c ao n cap 2 (by omega) (by omega) _ hC3).mono ?_
  rintro e w4 ⟨b, rfl, hC4, hg4⟩
  have hA4 : Below w.heap.size w w4 := hA3.trans (gr_below hg4 hcg hA3.size)
  cases b
  · go_wp2
    go_ret
    exact ⟨l, rfl, by omega, hA4⟩
  · go_wp2_with fail
    refine (l1Bend_some _ c ao n cap l (by omega) _ hC4).mono ?_
    rintro e w5 ⟨l5, rfl, hl5, hC5, hg5⟩
    have hA5 : Below w.heap.size w w5 := hA4.trans (gr_below hg5 hcg hA4.size)
    go_wp2
    go_ret
    exact ⟨l5, rfl, by omega, hA5⟩

end Go.Proofs.YtcmeppjfjledfaaDoor

/-
  A list of numbers that is answered, in new memory.
-/
set_option linter.unusedVariables false
set_option linter.unusedSimpArgs false
namespace Go.Proofs.YtcmeppjfjledfaaDoor
open Go.RowKit

/-- A list that is answered: of the call's own. -/
def Ans (w w' : World) (e : Ending) (m : Nat) (D : Nat → Int) : Prop := ∃ ao cap, e = .returned (.slice ao m cap) ∧ (0 < m → ∃ g, ao = some ⟨g, 0, none⟩ ∧ w.heap.size ≤ g ∧ IHas w' g m D) ∧ Below w.heap.size w w'

theorem ans_of {w w' : World} {e : Ending} {m m' : Nat} {D : Nat → Int} (h : m = m') (H : Ans w w' e m' D) : Ans w w' e m D := by rw [h]; exact H

end Go.Proofs.YtcmeppjfjledfaaDoor

/-
  What the laws over drawn inputs call: their helpers, and the bytes that came in.
-/
set_option linter.unusedVariables false
set_option linter.unusedSimpArgs false
namespace Go.Proofs.YtcmeppjfjledfaaDoor
open Go.ChangeShapes Go.WideShapes Go.ChangeAt Go.RowKit Go.Deep Go.Joins
attribute [local go_sem ↓] Go.wp_at_zero Go.wp_at_succ

theorem big_any (ao : Option Addr) (n cap : Nat) (hn : n ≤ 9223372036854775807) (w : World) : Calls Tryd.prog 4 #[.slice ao n cap] w fun e w' => e = .returned (.bool (decide (4096 < n))) ∧ w' = w := by
  by_cases h : 4096 < n
  · have h' : 4096 < (n : Int) := by omega
    go_enter Tryd.func4, Tryd.ntmps4
    go_wp2
    go_ret
    exact ⟨ret_bool (by simp [h]), rfl⟩
  · have h' : ¬ 4096 < (n : Int) := by omega
    go_enter Tryd.func4, Tryd.ntmps4
    go_wp2
    go_ret
    exact ⟨ret_bool (by simp [h]), rfl⟩

set_option maxRecDepth 100000 in
theorem open_bytes {H : Type} {enc : TypeId × Value → H} {w : World} {base : Nat} {spare : Nat → Bool} {held : Bool} {fuel : Nat} {cs : List Value} {x : DataW H × List MemPlace}
    (h : DataW.trod enc Tryd.prog w base spare held fuel 22 cs = some x) :
    ∃ (ao : Option Addr) (n cap : Nat), cs = [.slice ao n cap] ∧ n ≤ maxLen ∧ ByRow w w.heap.size ao n := by
  rcases open_slice Tryd.underlying22 h with ⟨rfl, _⟩ | ⟨a, len, cap, m, n, D, Pl, rfl, hb, hl, hm, hmm, _, hx⟩
  · exact ⟨none, 0, 0, rfl, Nat.zero_le _, fun k hk => by omega⟩
  have hlm : len ≤ m := by rw [hmm]; split <;> omega
  have cells8 : Tryd.prog.cellsOf 5 = 1 := by kernel_rfl
  have each : ∀ i, i < len → ∃ q : Int, w.cell? (a.add i) = some (.int .u8 q) ∧ (Lit.int .u8 q).wf = true := by
    intro i hi
    obtain ⟨cs', h1, h2⟩ := hx i (by omega)
    rw [cells8] at h1
    obtain ⟨_, hlen, hcell⟩ := World.cells?_some h1
    match cs', hlen with
    | [v0], _ =>
      obtain ⟨q0, r0, _, f0⟩ := DataW.trod_int Tryd.underlying5 h2
      have e0 := hcell 0 (by omega)
      rw [add_add] at e0
      simp at r0
      subst r0
      exact ⟨q0, by simpa using e0, f0⟩
  refine ⟨some a, len, cap, rfl, by omega, fun k hk => ?_⟩
  obtain ⟨q, hq, hwf⟩ := each k hk
  obtain ⟨b, o, spot⟩ := a
  have hspot : spot = none := by
    obtain ⟨_, hq0, _⟩ := each 0 (by omega)
    have := World.cell?_spot hq0
    simpa [Addr.add] using this
  subst hspot
  rw [Addr.add_mid] at hq
  have h8 : 0 ≤ q ∧ q ≤ 255 := by
    have h1 : IntKind.min .u8 = 0 := by decide
    have h2 : IntKind.max .u8 = 255 := by decide
    simp only [Lit.wf, h1, h2, Bool.and_eq_true, decide_eq_true_eq] at hwf
    exact hwf
  exact ⟨b, o, q, rfl, lt_of_cell hq, hq, h8.1, h8.2⟩

theorem ByRow.up {w W : World} {ao : Option Addr} {n : Nat} (h : ByRow w w.heap.size ao n) (hb : Below w.heap.size w W) : ByRow W W.heap.size ao n := fun k hk => by
  obtain ⟨b, o, v, e, hlt, hc, hv⟩ := (h.below hb (Nat.le_refl _)) k hk
  exact ⟨b, o, v, e, Nat.lt_of_lt_of_le hlt hb.size, hc, hv⟩
theorem ans_row {W w' : World} {ao : Option Addr} {m : Nat} {D : Nat → Int} (h : 0 < m → ∃ g, ao = some ⟨g, 0, none⟩ ∧ W.heap.size ≤ g ∧ IHas w' g m D) : IRow w' ao m D := fun k hk => by
  obtain ⟨g, e, _, hI⟩ := h (by omega)
  subst e
  exact hI.row k hk

end Go.Proofs.YtcmeppjfjledfaaDoor

/-
  The laws' comparison of maps: two lists of the same arcs.
-/
set_option linter.unusedVariables false
set_option linter.unusedSimpArgs false
namespace Go.Proofs.YtcmeppjfjledfaaDoor
open Go.ChangeShapes Go.WideShapes Go.ChangeAt Go.RowKit Go.Deep Go.Joins
attribute [local go_sem ↓] Go.wp_at_zero Go.wp_at_succ

set_option maxHeartbeats 800000 in
theorem likeArcs_same (ao ao' : Option Addr) (n cap cap' : Nat) (F T G : Nat → Int) (hn : n ≤ 1048576) (w : World) (hr : Row w ao n F T G) (hr' : Row w ao' n F T G) :
    Calls Tryd.prog 23 #[.slice ao n cap, .slice ao' n cap'] w fun e w' => e = .returned (.bool true) ∧ Below w.heap.size w w' := by
  go_enter Tryd.func23, Tryd.ntmps23
  go_wp2
  go_loopw [5] (fun i wr => ∃ k : Nat, k ≤ n ∧ i = .int .i64 k ∧ Below w.heap.size w wr) (fun i _ => n - (intOf i).toNat)
  case atStart => exact ⟨0, Nat.zero_le _, rfl, Below.refl _ _⟩
  case round =>
    obtain ⟨k, hk, rfl, hbel⟩ := hrel
    by_cases hlt : k < n
    rotate_left
    · have hkn : k = n := by omega
      subst hkn
      go_wp2
      go_ret
      exact ⟨rfl, hbel⟩
    obtain ⟨b, o, hao, c0, c1, c2⟩ := (hr.below hbel (Nat.le_refl _)) k hlt
    obtain ⟨b', o', hao', d0, d1, d2⟩ := (hr'.below hbel (Nat.le_refl _)) k hlt
    subst hao
    subst hao'
    have hk1 : (0 : Int) ≤ (k : Int) := by omega
    have hk2 : (k : Int) < (n : Int) := by omega
    go_wp2
    go_quiet (fail)
    go_wp2
    go_roundw
    case rel => exact ⟨k + 1, by omega, by go_num, below_drewN hbel _⟩
    case measure => simp [intOf]; omega

set_option maxHeartbeats 800000 in
theorem likeGraph_same (p : Int) (ao ao' : Option Addr) (n cap cap' : Nat) (F T G : Nat → Int) (hn : n ≤ 1048576) (w : World) (hr : Row w ao n F T G) (hr' : Row w ao' n F T G) :
    Calls Tryd.prog 10 #[.agg #[.int .i64 p, .slice ao n cap], .agg #[.int .i64 p, .slice ao' n cap']] w fun e w' => e = .returned (.bool true) ∧ Below w.heap.size w w' := by
  have hA : Below w.heap.size w ((w.alloc (.cells #[.int .i64 p, .slice ao n cap] 26)).alloc (.cells #[.int .i64 p, .slice ao' n cap'] 26)) := ((Below.refl _ _).alloc (Nat.le_refl _) _).alloc (by simp) _
  have h1 := hr.below hA (Nat.le_refl _)
  have h2 := hr'.below hA (Nat.le_refl _)
  go_enter Tryd.func10, Tryd.ntmps10
  go_wp2_with (go_at_call 23; refine (likeArcs_same ao ao' n cap cap' F T G hn _ h1 h2).mono ?_; rintro e w3 ⟨rfl, hb3⟩)
  go_ret
  exact ⟨rfl, below_next hA (Nat.le_refl _) hb3⟩

end Go.Proofs.YtcmeppjfjledfaaDoor
