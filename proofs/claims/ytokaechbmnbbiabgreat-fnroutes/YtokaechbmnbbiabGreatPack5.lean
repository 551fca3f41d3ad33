/-
  Helpers, merged: DrawAny, OrdSp, DrawO0, FillSp, DrawE, OwnI, Turns, OwnL.
-/
import Derived.Test.YtokaechbmnbbiabGreatPack4
import Derived.BigRegion
import Derived.Test.YtokaechbmnbbiabGreatPack3
import Derived.Test.YtokaechbmnbbiabGreatPack2
/-
  The document's l1DrawAny: some map comes, right or not.
-/
set_option linter.unusedVariables false
set_option linter.unusedSimpArgs false
namespace Go.Proofs.YtokaechbmnbbiabGreat
open Go.RowKit Go.Maps
attribute [local go_sem ↓] Go.wp_at_zero Go.wp_at_succ

theorem lit5 {W : World} {b : Nat} {a0 a1 a2 a3 a4 : Int} {t : TypeId} (h : W.heap[b]? = some (.cells #[.int .i64 a0, .int .i64 a1, .int .i64 a2, .int .i64 a3, .int .i64 a4] t (0, 0))) {y : Nat} (hy : y < 5) : ∃ v, W.cell? ⟨b, y, none⟩ = some (.int .i64 v) := by
  have : y = 0 ∨ y = 1 ∨ y = 2 ∨ y = 3 ∨ y = 4 := by omega
  rcases this with rfl | rfl | rfl | rfl | rfl <;> exact ⟨_, by simp [World.cell?, h]; rfl⟩
theorem lit4W {W : World} {b : Nat} {a0 a1 a2 a3 : Int} {t : TypeId} (h : W.heap[b]? = some (.cells #[.int .i64 a0, .int .i64 a1, .int .i64 a2, .int .i64 a3] t (0, 0))) (h0 : (Lit.int .i64 a0).wf = true) (h1 : (Lit.int .i64 a1).wf = true) (h2 : (Lit.int .i64 a2).wf = true) (h3 : (Lit.int .i64 a3).wf = true) {y : Nat} (hy : y < 4) : ∃ v, W.cell? ⟨b, y, none⟩ = some (.int .i64 v) ∧ (Lit.int .i64 v).wf = true := by
  have : y = 0 ∨ y = 1 ∨ y = 2 ∨ y = 3 := by omega
  rcases this with rfl | rfl | rfl | rfl
  · exact ⟨a0, by simp [World.cell?, h], h0⟩
  · exact ⟨a1, by simp [World.cell?, h], h1⟩
  · exact ⟨a2, by simp [World.cell?, h], h2⟩
  · exact ⟨a3, by simp [World.cell?, h], h3⟩
theorem lit4 {W : World} {b : Nat} {a0 a1 a2 a3 : Int} {t : TypeId} (h : W.heap[b]? = some (.cells #[.int .i64 a0, .int .i64 a1, .int .i64 a2, .int .i64 a3] t (0, 0))) {y : Nat} (hy : y < 4) : ∃ v, W.cell? ⟨b, y, none⟩ = some (.int .i64 v) := by
  have : y = 0 ∨ y = 1 ∨ y = 2 ∨ y = 3 := by omega
  rcases this with rfl | rfl | rfl | rfl <;> exact ⟨_, by simp [World.cell?, h]; rfl⟩
theorem AOwnE.cells {w : World} {base n cap : Nat} {ao : Option Addr} (h : AOwnE w base ao n cap) (hn : 0 < n) : ∃ g, ao = some ⟨g, 0, none⟩ ∧ base ≤ g ∧ g < w.heap.size ∧ (∀ j, j < n * 3 → ∃ v, w.cell? ⟨g, j, none⟩ = some (.int .i64 v) ∧ (Lit.int .i64 v).wf = true) ∧ (∀ j, w.frozen? ⟨g, j, none⟩ = false) ∧ ∀ j v, (Lit.int .i64 v).wf = true → AOwnE (w.setCell ⟨g, j, none⟩ (.int .i64 v)) base (some ⟨g, 0, none⟩) n cap := by
  obtain ⟨f, hw9, hl, h0 | ⟨g, cap', cur, hv, hb', hh, h1, h2, h3, h4⟩⟩ := h
  · omega
  · simp at hv
    obtain ⟨rfl, rfl⟩ := hv
    have hc : ∀ j, j < n * 3 → cur[j]? = some (.int .i64 (f j)) := fun j hj => by
      have : (cur.toList.take (n * 3))[j]? = (cellsOf f (n * 3))[j]? := by rw [h4]
      rw [List.getElem?_take_of_lt hj, cellsOf, List.getElem?_map, List.getElem?_range hj] at this
      simpa using this
    refine ⟨g, rfl, hb', (Array.getElem?_eq_some_iff.1 hh).1, fun j hj => ⟨f j, by simp [World.cell?, hh, hc j hj], hw9 j⟩, fun j => by simp [World.frozen?, hh], fun j v hv9 => ?_⟩
    refine ⟨fun i => if i = j then v else f i, fun i => by simp only; split; exact hv9; exact hw9 i, by simp [cellsOf], .inr ⟨g, cap, cur.setIfInBounds j (.int .i64 v), rfl, hb', ?_, h1, h2, by simpa using h3, ?_⟩⟩
    · simp [World.setCell, Array.getElem?_modify, hh]
    · apply List.ext_getElem?
      intro i
      by_cases hi : i < n * 3
      · have hcs : n * 3 ≤ cur.size := by rw [h3]; exact Nat.mul_le_mul_right 3 h1
        rw [List.getElem?_take_of_lt hi, cellsOf, List.getElem?_map, List.getElem?_range hi, Array.getElem?_toList, Array.getElem?_setIfInBounds]
        by_cases e : i = j
        · subst e
          rw [if_pos rfl, if_pos (by omega)]
          simp
        · rw [if_neg (fun h => e h.symm), hc i hi]
          simp [e]
      · rw [List.getElem?_eq_none (by simp; omega), List.getElem?_eq_none (by simp [cellsOf]; omega)]
theorem DS.put {w : World} {base c : Nat} {ao : Option Addr} {n cap rb gb : Nat} {p : Int} {k gc g : Nat} {W : World} (h : DS w base c ao n cap rb gb p (some ⟨g, 0, none⟩) k gc W) (hc : (c < rb ∧ rb < gb) ∧ w.heap.size ≤ rb) (hk : 0 < k) (j : Nat) (v : Int) (hv9 : (Lit.int .i64 v).wf = true) : DS w base c ao n cap rb gb p (some ⟨g, 0, none⟩) k gc (W.setCell ⟨g, j, none⟩ (.int .i64 v)) := by
  obtain ⟨g', e, h1, h2, _, _, h5⟩ := h.own.cells hk
  cases e
  have hng : g ≠ gb := h.ne _ rfl
  have hs := gr_setCell W g j (.int .i64 v)
  have hge := h.cur.ge
  exact ⟨h.cur.grown hs (by omega) (by omega), h.box.grown hs (by simp; omega), h5 j v hv9, h.ne, h.res.grown hs (by simp; omega), gr_far h.gr hs (fun x e => by cases e; exact h1) (by omega)⟩
theorem DS.places {w : World} {base c : Nat} {ao : Option Addr} {n cap rb gb : Nat} {p : Int} {go : Option Addr} {k gc : Nat} {W : World} (h : DS w base c ao n cap rb gb p go k gc W) (hc : (c < rb ∧ rb < gb) ∧ w.heap.size ≤ rb) (p' : Int) : DS w base c ao n cap rb gb p' go k gc (W.setCell ⟨gb, 0, none⟩ (.int .i64 p')) := by
  have hs := gr_setCell W gb 0 (.int .i64 p')
  have hge := h.cur.ge
  refine ⟨h.cur.grown hs (by omega) (by omega), (h.box.set 0 _).congr (fun j hj => ?_), ?_, h.ne, h.res.grown hs (by simp; omega), gr_far h.gr hs (fun x e => by cases e; exact Nat.le_refl _) (by omega)⟩
  · have : j = 0 ∨ j = 1 := by omega
    rcases this with rfl | rfl <;> rfl
  · obtain ⟨f, hw9, hl, h0 | ⟨g, cap', cur, hv, hb, hh, rest⟩⟩ := h.own
    · exact ⟨f, hw9, hl, .inl h0⟩
    · have hv' := hv
      simp at hv'
      have := h.ne _ hv'.1
      exact ⟨f, hw9, hl, .inr ⟨g, cap', cur, hv, hb, (hs.block g (Array.getElem?_eq_some_iff.1 hh).1 (by simp; exact this)).trans hh, rest⟩⟩

theorem DS.reset {w : World} {base c : Nat} {ao : Option Addr} {n cap rb gb : Nat} {p : Int} {go : Option Addr} {k gc : Nat} {W : World} (h : DS w base c ao n cap rb gb p go k gc W) (hc : (c < rb ∧ rb < gb) ∧ w.heap.size ≤ rb) (p' : Int) : DS w base c ao n cap rb gb p' none 0 0 ((W.setCell ⟨gb, 0, none⟩ (.int .i64 p')).setCell ⟨gb, 1, none⟩ (.slice none 0 0)) := by
  have hs := (gr_setCell W gb 0 (.int .i64 p')).trans (gr_setCell _ gb 1 (.slice none 0 0))
  have hge := h.cur.ge
  refine ⟨h.cur.grown hs (by omega) (by omega), ((h.box.set 0 _).set 1 _).congr (fun j hj => ?_), aown_nil _ _, (fun a e => by cases e), h.res.grown hs (by simp; omega), gr_far h.gr hs (fun x e => by cases e; exact Nat.le_refl _) (by omega)⟩
  have : j = 0 ∨ j = 1 := by omega
  rcases this with rfl | rfl <;> rfl

set_option maxRecDepth 100000 in
set_option maxHeartbeats 8000000 in
theorem l1DrawAny_any (base c : Nat) (ao : Option Addr) (n cap : Nat) (w : World) (hC : CurAt w base c ao n cap) :
    Calls Tryz.prog 101 #[.pointer (some ⟨c, 0, none⟩)] w fun e w' => ∃ (p : Int) (go : Option Addr) (k gc : Nat), e = .returned (.agg #[.int .i64 p, .slice go k gc]) ∧ k ≤ 200 ∧ AOwnE w' w.heap.size go k gc ∧ CurAt w' base c ao n cap ∧ w.grownBy w' (some c) := by
  have hcl := hC.lt
  have hC0 := hC.next ((Below.refl _ w).alloc (Nat.le_refl _) (.cells #[.int .i64 0, .slice none 0 0] 26))
  go_enter Tryz.func101, Tryz.ntmps101
  go_wp2_with fail
  refine (l1Draw_any base c ao n cap _ hC0).mono ?_
  rintro e w1 ⟨p, go, k, gc, rfl, hpp, hk, hO1, hC1, hg1⟩
  have hrb1 := (gr_new w 0 (.slice none 0 0)).grown hg1 (by simp; omega)
  have hs1 := hrb1.lt
  have hD1 : DS w base c ao n cap w.heap.size w1.heap.size (p : Int) go k gc (w1.alloc (.cells #[.int .i64 (p : Int), .slice go k gc] 26)) :=
    ⟨hC1.next ((Below.refl _ w1).alloc (Nat.le_refl _) _), gr_new w1 _ _, (by simpa using hO1.next ((Below.refl _ w1).alloc (Nat.le_refl _) _)), (fun a e => by subst e; have := (hO1.at rfl).2; omega), hrb1.alloc _, ((World.grownBy_alloc w _ _).trans hg1).trans (World.grownBy_alloc w1 _ _)⟩
  clear hC1 hg1 hO1 hrb1 hC0
  go_wp2_with fail
  refine (l1Once_any base c ao n cap 12 (by omega) (by omega) _ hD1.cur).mono ?_
  rintro e w2 ⟨bx, rfl, hC2, hg2⟩
  have hD2 := hD1.step ⟨hcl, hs1⟩ hC2 hg2
  clear hD1 hC2 hg2
  obtain ⟨gb, hgb⟩ : ∃ gb, w1.heap.size = gb := ⟨_, rfl⟩
  rw [hgb] at hD2 hs1 ⊢
  clear hgb
  cases bx
  · skip
    have r0 : w2.cell? ⟨w.heap.size, 0, none⟩ = some (.int .i64 0) := hD2.res.cell (j := 0) (by omega)
    have r1 : w2.cell? ⟨w.heap.size, 1, none⟩ = some (.slice none 0 0) := hD2.res.cell (j := 1) (by omega)
    have y0 := hD2.res.frozen 0
    have y1 := hD2.res.frozen 1
    have b0 : w2.cell? ⟨gb, 0, none⟩ = some (.int .i64 (p : Int)) := hD2.box.cell (j := 0) (by omega)
    have b1 : w2.cell? ⟨gb, 1, none⟩ = some (.slice go k gc) := hD2.box.cell (j := 1) (by omega)
    obtain ⟨q0, q1, q2⟩ := res_cells hD2.res (p : Int) (.slice go k gc)
    obtain ⟨o1, o2, o3⟩ := hD2.out ⟨⟨hcl, hs1⟩, Nat.le_refl _⟩ (.int .i64 (p : Int)) (.slice go k gc)
    go_wp2
    simp [bodyPost, results, Tryz.results101, go_sem, q0, q1, q2]
    exact ⟨_, _, _, _, ⟨rfl, rfl, rfl, rfl⟩, by omega, o1, o2, o3⟩
  go_wp2_with fail
  refine (l1Below_any base c ao n cap 5 (by omega) (by omega) _ hD2.cur).mono ?_
  rintro e w3 ⟨x, rfl, hx, hC3, hg3⟩
  have hD3 := hD2.step ⟨hcl, hs1⟩ hC3 hg3
  clear hD2 hC3 hg3
  have hgl3 := hD3.box.lt
  have hx5 : x = 0 ∨ x = 1 ∨ x = 2 ∨ x = 3 ∨ x = 4 := by omega
  rcases hx5 with rfl | rfl | rfl | rfl | rfl
  · have hal := (Below.refl w3.heap.size w3).alloc (Nat.le_refl _) (.cells #[.int .i64 0, .int .i64 24, .int .i64 25, .int .i64 1, .int .i64 (-9223372036854775808)] 2)
    go_wp2_with fail
    refine (l1Below_any base c ao n cap 5 (by omega) (by omega) _ (hD3.next hal).cur).mono ?_
    rintro e w4 ⟨y, rfl, hy, hC4, hg4⟩
    have hD4 := (hD3.next hal).step ⟨hcl, hs1⟩ hC4 hg4
    obtain ⟨v, hv⟩ := lit5 ((hg4.block w3.heap.size (by simp) (by simp; omega)).trans (Go.Deep.blk_alloc_new _ _)) (show y < 5 by omega)
    clear hC4 hg4 hD3 hal
    have hy' : (y : Int) < 5 := by omega
    have c0 : w4.cell? ⟨gb, 0, none⟩ = some (.int .i64 (p : Int)) := hD4.box.cell (j := 0) (by omega)
    have z0 := hD4.box.frozen 0
    have hD5 := hD4.places ⟨⟨hcl, hs1⟩, Nat.le_refl _⟩ v
    clear hD4
    have r0 : (w4.setCell ⟨gb, 0, none⟩ (.int .i64 v)).cell? ⟨w.heap.size, 0, none⟩ = some (.int .i64 0) := hD5.res.cell (j := 0) (by omega)
    have r1 : (w4.setCell ⟨gb, 0, none⟩ (.int .i64 v)).cell? ⟨w.heap.size, 1, none⟩ = some (.slice none 0 0) := hD5.res.cell (j := 1) (by omega)
    have y0 := hD5.res.frozen 0
    have y1 := hD5.res.frozen 1
    have b0 : (w4.setCell ⟨gb, 0, none⟩ (.int .i64 v)).cell? ⟨gb, 0, none⟩ = some (.int .i64 v) := hD5.box.cell (j := 0) (by omega)
    have b1 : (w4.setCell ⟨gb, 0, none⟩ (.int .i64 v)).cell? ⟨gb, 1, none⟩ = some (.slice go k gc) := hD5.box.cell (j := 1) (by omega)
    obtain ⟨q0, q1, q2⟩ := res_cells hD5.res v (.slice go k gc)
    obtain ⟨o1, o2, o3⟩ := hD5.out ⟨⟨hcl, hs1⟩, Nat.le_refl _⟩ (.int .i64 v) (.slice go k gc)
    go_wp2
    simp [bodyPost, results, Tryz.results101, go_sem, q0, q1, q2]
    exact ⟨_, _, _, _, ⟨rfl, rfl, rfl, rfl⟩, by omega, o1, o2, o3⟩
  · have b1 : w3.cell? ⟨gb, 1, none⟩ = some (.slice go k gc) := hD3.box.cell (j := 1) (by omega)
    have hDc := hD3.next (Below.refl _ w3).drew
    clear hD3
    go_wp2
    go_region_law (first | (go_simp; go_at_call 103; refine (l1From_any base c ao n cap _ hDc.cur).mono ?_; rintro e w5 ⟨zz, rfl, hzb, hC5, hg5⟩; replace hDc := hDc.step ⟨hcl, hs1⟩ hC5 hg5; have b5 : w5.cell? ⟨gb, 1, none⟩ = some (.slice go k gc) := hDc.box.cell (j := 1) (by omega); have hl5 := hDc.box.lt; clear hC5 hg5) | (refine step_append_arc ?_ (.tmp 25) (.tmp 31) ?_ (w.heap.size + 1) k gc go ?_ (hDc.own.next ((Below.refl _ _).alloc (Nat.le_refl _) _)) w5.heap.size ?_ _ _ _ (Go.Deep.blk_alloc_new _ _) (by omega) (by have := hDc.box.lt; simp; omega) (by first | exact wfA (by omega) | exact wf_wrap _) (by first | exact wfA (by omega) | exact wf_wrap _) (by first | exact wfA (by omega) | exact wf_wrap _) ?_; rfl; rfl; rfl; rfl; intro g' gc' w6 hown6 hgrow hr6; have hbx6 := (hDc.box.alloc _).grown hgrow (fun e => (hDc.row e.symm).2 rfl); have hb6 : w6.cell? ⟨gb, 1, none⟩ = some (.slice go k gc) := hbx6.cell (j := 1) (by omega); have hz6 := hbx6.frozen 1))
    all_goals
      have R := (hDc.next ((Below.refl _ _).alloc (Nat.le_refl _) _)).appended ⟨⟨hcl, hs1⟩, Nat.le_refl _⟩ hgrow hown6 hr6
      clear hbx6 hb6 hz6 hDc hgrow hown6 hr6
      have r0 : (w6.setCell ⟨gb, 1, none⟩ (.slice (some ⟨g', 0, none⟩) (k + 1) gc')).cell? ⟨w.heap.size, 0, none⟩ = some (.int .i64 0) := R.res.cell (j := 0) (by omega)
      have r1 : (w6.setCell ⟨gb, 1, none⟩ (.slice (some ⟨g', 0, none⟩) (k + 1) gc')).cell? ⟨w.heap.size, 1, none⟩ = some (.slice none 0 0) := R.res.cell (j := 1) (by omega)
      have y0 := R.res.frozen 0
      have y1 := R.res.frozen 1
      have b0 : (w6.setCell ⟨gb, 1, none⟩ (.slice (some ⟨g', 0, none⟩) (k + 1) gc')).cell? ⟨gb, 0, none⟩ = some (.int .i64 (p : Int)) := R.box.cell (j := 0) (by omega)
      have b1 : (w6.setCell ⟨gb, 1, none⟩ (.slice (some ⟨g', 0, none⟩) (k + 1) gc')).cell? ⟨gb, 1, none⟩ = some (.slice (some ⟨g', 0, none⟩) (k + 1) gc') := R.box.cell (j := 1) (by omega)
      obtain ⟨q0, q1, q2⟩ := res_cells R.res (p : Int) (.slice (some ⟨g', 0, none⟩) (k + 1) gc')
      obtain ⟨o1, o2, o3⟩ := R.out ⟨⟨hcl, hs1⟩, Nat.le_refl _⟩ (.int .i64 (p : Int)) (.slice (some ⟨g', 0, none⟩) (k + 1) gc')
      go_wp2
      simp [bodyPost, results, Tryz.results101, go_sem, q0, q1, q2]
      exact ⟨_, _, _, _, ⟨rfl, rfl, rfl, rfl⟩, by omega, o1, o2, o3⟩
  · by_cases h0 : 0 < k
    rotate_left
    · have h0' : ¬ 0 < (k : Int) := by omega
      have r0 : w3.cell? ⟨w.heap.size, 0, none⟩ = some (.int .i64 0) := hD3.res.cell (j := 0) (by omega)
      have r1 : w3.cell? ⟨w.heap.size, 1, none⟩ = some (.slice none 0 0) := hD3.res.cell (j := 1) (by omega)
      have y0 := hD3.res.frozen 0
      have y1 := hD3.res.frozen 1
      have b0 : w3.cell? ⟨gb, 0, none⟩ = some (.int .i64 (p : Int)) := hD3.box.cell (j := 0) (by omega)
      have b1 : w3.cell? ⟨gb, 1, none⟩ = some (.slice go k gc) := hD3.box.cell (j := 1) (by omega)
      obtain ⟨q0, q1, q2⟩ := res_cells hD3.res (p : Int) (.slice go k gc)
      obtain ⟨o1, o2, o3⟩ := hD3.out ⟨⟨hcl, hs1⟩, Nat.le_refl _⟩ (.int .i64 (p : Int)) (.slice go k gc)
      go_wp2
      simp [bodyPost, results, Tryz.results101, go_sem, q0, q1, q2]
      exact ⟨_, _, _, _, ⟨rfl, rfl, rfl, rfl⟩, by omega, o1, o2, o3⟩
    have h0' : 0 < (k : Int) := by omega
    obtain ⟨g, rfl, hg0, hg1, _, _, _⟩ := hD3.own.cells h0
    have b1 : w3.cell? ⟨gb, 1, none⟩ = some (.slice (some ⟨g, 0, none⟩) k gc) := hD3.box.cell (j := 1) (by omega)
    have hng : g ≠ gb := hD3.ne _ rfl
    have hDd := hD3.next (Below.refl _ w3).drew
    have hDa := (hD3.next ((Below.refl _ w3).alloc (Nat.le_refl _) (.cells #[.int .i64 0, .int .i64 1000000, .int .i64 1000001, .int .i64 (-1)] 2))).next (Below.refl _ _).drew
    clear hD3
    go_wp2
    go_region_law (first
      | (go_simp; go_at_call 64; refine (l1Below_any base c ao n cap 4 (by omega) (by omega) _ hDa.cur).mono ?_; rintro e w5 ⟨y, rfl, hy, hC5, hg5⟩; have hDs := hDa.step ⟨hcl, hs1⟩ hC5 hg5; obtain ⟨v, hv, hvw⟩ := lit4W ((hg5.block w3.heap.size (by simp) (by simp <;> omega)).trans (Go.Deep.blk_alloc_new w3 (.cells #[.int .i64 0, .int .i64 1000000, .int .i64 1000001, .int .i64 (-1)] 2))) (wfA (by omega)) (wfA (by omega)) (wfA (by omega)) (wfA (by omega)) (show y < 4 by omega); obtain ⟨g5, eg5, _, hgl5, hcs5, hfz5, _⟩ := hDs.own.cells h0; cases eg5; obtain ⟨u2, e2, _⟩ := hcs5 2 (by omega); have f2 := hfz5 2; have b5 : w5.cell? ⟨gb, 1, none⟩ = some (.slice (some ⟨g, 0, none⟩) k gc) := hDs.box.cell (j := 1) (by omega); have hl5 := hDs.box.lt; have hy4 : (y : Int) < 4 := (by omega); clear hC5 hg5 hcs5 hfz5)
      | (go_simp; go_at_call 64; refine (l1Below_any base c ao n cap 4 (by omega) (by omega) _ hDd.cur).mono ?_; rintro e w5 ⟨y, rfl, hy, hC5, hg5⟩; have hDs := hDd.step ⟨hcl, hs1⟩ hC5 hg5; obtain ⟨v, hv, hvw⟩ := lit4W (Go.Deep.blk_alloc_new w5 (.cells #[.int .i64 0, .int .i64 1000000, .int .i64 1000001, .int .i64 (-1)] 2)) (wfA (by omega)) (wfA (by omega)) (wfA (by omega)) (wfA (by omega)) (show y < 4 by omega); obtain ⟨g5, eg5, _, hgl5, hcs5, hfz5, _⟩ := hDs.own.cells h0; cases eg5; obtain ⟨u2, e2, _⟩ := hcs5 2 (by omega); have f2 := hfz5 2; have b5 : w5.cell? ⟨gb, 1, none⟩ = some (.slice (some ⟨g, 0, none⟩) k gc) := hDs.box.cell (j := 1) (by omega); have hl5 := hDs.box.lt; have hy4 : (y : Int) < 4 := (by omega); clear hC5 hg5 hcs5 hfz5))
    all_goals
      have b0 : w5.cell? ⟨gb, 0, none⟩ = some (.int .i64 (p : Int)) := hDs.box.cell (j := 0) (by omega)
      have r0 : w5.cell? ⟨w.heap.size, 0, none⟩ = some (.int .i64 0) := hDs.res.cell (j := 0) (by omega)
      have r1 : w5.cell? ⟨w.heap.size, 1, none⟩ = some (.slice none 0 0) := hDs.res.cell (j := 1) (by omega)
      have y0 := hDs.res.frozen 0
      have y1 := hDs.res.frozen 1
      have hgr1 : g ≠ w.heap.size := by omega
      have hgr2 : w.heap.size ≠ g := by omega
      have hgr3 : w.heap.size ≠ gb := by omega
      have hng2 : gb ≠ g := fun e => hng e.symm
      have hrl : w.heap.size < w5.heap.size := by omega
      clear hDd hDa
      first
      | (have R := hDs.put ⟨⟨hcl, hs1⟩, Nat.le_refl _⟩ h0 2 v hvw
         obtain ⟨q0, q1, q2⟩ := res_cells R.res (p : Int) (.slice (some ⟨g, 0, none⟩) k gc)
         obtain ⟨o1, o2, o3⟩ := R.out ⟨⟨hcl, hs1⟩, Nat.le_refl _⟩ (.int .i64 (p : Int)) (.slice (some ⟨g, 0, none⟩) k gc)
         go_wp2
         simp [bodyPost, results, Tryz.results101, go_sem, q0, q1, q2]
         exact ⟨_, _, _, _, ⟨rfl, rfl, rfl, rfl⟩, by omega, o1, o2, o3⟩)
      | (have R := hDs.put ⟨⟨hcl, hs1⟩, Nat.le_refl _⟩ h0 2 v hvw
         obtain ⟨q0, q1, q2⟩ := res_cells R.res (p : Int) (.slice (some ⟨g, 0, none⟩) k gc)
         obtain ⟨o1, o2, o3⟩ := R.out ⟨⟨hcl, hs1⟩, Nat.le_refl _⟩ (.int .i64 (p : Int)) (.slice (some ⟨g, 0, none⟩) k gc)
         go_wp2
         simp [bodyPost, results, Tryz.results101, go_sem, q0, q1, q2, hrl]
         exact ⟨_, _, _, _, ⟨rfl, rfl, rfl, rfl⟩, by omega, o1.next ((Below.refl _ _).alloc (Nat.le_refl _) _), o2.next ((Below.refl _ _).alloc (Nat.le_refl _) _), o3.trans (World.grownBy_alloc _ _ _)⟩)
  · have c0 : w3.cell? ⟨gb, 0, none⟩ = some (.int .i64 (p : Int)) := hD3.box.cell (j := 0) (by omega)
    have c1 : w3.cell? ⟨gb, 1, none⟩ = some (.slice go k gc) := hD3.box.cell (j := 1) (by omega)
    have z0 := hD3.box.frozen 0
    have z1 := hD3.box.frozen 1
    have hD4 := hD3.reset ⟨⟨hcl, hs1⟩, Nat.le_refl _⟩ 24
    clear hD3
    go_wp2
    clear c0 c1 z0 z1
    go_loopw [4] (fun x wr => ∃ (i gc : Nat) (go : Option Addr), i ≤ 101 ∧ x = .int .i64 i ∧ DS w base c ao n cap w.heap.size gb 24 go i gc wr) (fun x _ => 101 - (intOf x).toNat)
    case atStart => exact ⟨0, 0, none, by omega, rfl, hD4⟩
    case round =>
      clear hD4
      obtain ⟨i, gc, go, hi, rfl, hD⟩ := hrel
      go_wp2_with fail
      refine (l1Below_any base c ao n cap 2 (by omega) (by omega) _ hD.cur).mono ?_
      rintro e w5 ⟨x, rfl, hx2, hC5, hg5⟩
      have hD5 := hD.step ⟨hcl, hs1⟩ hC5 hg5
      clear hD hC5 hg5
      have hl5 := hD5.box.lt
      by_cases hlt : i < 100 + x
      rotate_left
      · have hlt' : ¬ (i : Int) < 100 + (x : Int) := by omega
        have r0 : w5.cell? ⟨w.heap.size, 0, none⟩ = some (.int .i64 0) := hD5.res.cell (j := 0) (by omega)
        have r1 : w5.cell? ⟨w.heap.size, 1, none⟩ = some (.slice none 0 0) := hD5.res.cell (j := 1) (by omega)
        have y0 := hD5.res.frozen 0
        have y1 := hD5.res.frozen 1
        have b0 : w5.cell? ⟨gb, 0, none⟩ = some (.int .i64 24) := hD5.box.cell (j := 0) (by omega)
        have b1 : w5.cell? ⟨gb, 1, none⟩ = some (.slice go i gc) := hD5.box.cell (j := 1) (by omega)
        obtain ⟨q0, q1, q2⟩ := res_cells hD5.res 24 (.slice go i gc)
        obtain ⟨o1, o2, o3⟩ := hD5.out ⟨⟨hcl, hs1⟩, Nat.le_refl _⟩ (.int .i64 24) (.slice go i gc)
        go_wp2
        simp [bodyPost, results, Tryz.results101, go_sem, q0, q1, q2]
        exact ⟨_, _, _, _, ⟨rfl, rfl, rfl, rfl⟩, by omega, o1, o2, o3⟩
      have hlt' : (i : Int) < 100 + (x : Int) := by omega
      have b1 : w5.cell? ⟨gb, 1, none⟩ = some (.slice go i gc) := hD5.box.cell (j := 1) (by omega)
      go_wp2_with (at_builtin; refine wpList_append_arc rfl _ _ rfl (w.heap.size + 1) i gc go rfl (hD5.own.next ((Below.refl _ _).alloc (Nat.le_refl _) _)) w5.heap.size rfl _ _ _ (Go.Deep.blk_alloc_new _ _) (by omega) (by simp; omega) (by first | exact wfA (by omega) | exact wf_wrap _) (by first | exact wfA (by omega) | exact wf_wrap _) (by first | exact wfA (by omega) | exact wf_wrap _) ?_; intro g' gc' w6 hown6 hgrow hr6; have hbx6 := (hD5.box.alloc _).grown hgrow (fun e => (hD5.row e.symm).2 rfl); have hb6 : w6.cell? ⟨gb, 1, none⟩ = some (.slice go i gc) := hbx6.cell (j := 1) (by omega); have hz6 := hbx6.frozen 1)
      all_goals
        have R := (hD5.next ((Below.refl _ _).alloc (Nat.le_refl _) _)).appended ⟨⟨hcl, hs1⟩, Nat.le_refl _⟩ hgrow hown6 hr6
        clear hbx6 hb6 hz6 hD5 hgrow hown6 hr6
        go_wp2
        go_roundw
        case rel => exact ⟨i + 1, gc', _, by omega, by go_num, R⟩
        case measure => simp [intOf]; omega
  · by_cases h1 : 1 < k
    rotate_left
    · have h1' : ¬ 1 < (k : Int) := by omega
      have r0 : w3.cell? ⟨w.heap.size, 0, none⟩ = some (.int .i64 0) := hD3.res.cell (j := 0) (by omega)
      have r1 : w3.cell? ⟨w.heap.size, 1, none⟩ = some (.slice none 0 0) := hD3.res.cell (j := 1) (by omega)
      have y0 := hD3.res.frozen 0
      have y1 := hD3.res.frozen 1
      have b0 : w3.cell? ⟨gb, 0, none⟩ = some (.int .i64 (p : Int)) := hD3.box.cell (j := 0) (by omega)
      have b1 : w3.cell? ⟨gb, 1, none⟩ = some (.slice go k gc) := hD3.box.cell (j := 1) (by omega)
      obtain ⟨q0, q1, q2⟩ := res_cells hD3.res (p : Int) (.slice go k gc)
      obtain ⟨o1, o2, o3⟩ := hD3.out ⟨⟨hcl, hs1⟩, Nat.le_refl _⟩ (.int .i64 (p : Int)) (.slice go k gc)
      go_wp2
      simp [bodyPost, results, Tryz.results101, go_sem, q0, q1, q2]
      exact ⟨_, _, _, _, ⟨rfl, rfl, rfl, rfl⟩, by omega, o1, o2, o3⟩
    have h1' : 1 < (k : Int) := by omega
    obtain ⟨g, rfl, hg0, hg1, hcs, hfz, _⟩ := hD3.own.cells (by omega)
    obtain ⟨v0, e0, wv0⟩ := hcs 0 (by omega)
    obtain ⟨v1, e1, wv1⟩ := hcs 1 (by omega)
    obtain ⟨v2, e2, wv2⟩ := hcs 2 (by omega)
    have b1 : w3.cell? ⟨gb, 1, none⟩ = some (.slice (some ⟨g, 0, none⟩) k gc) := hD3.box.cell (j := 1) (by omega)
    have hal := (Below.refl w3.heap.size w3).alloc (Nat.le_refl _) (.cells #[.int .i64 v0, .int .i64 v1, .int .i64 v2] 115)
    have hDz := hD3.next hal
    have xa0 : (w3.alloc (.cells #[.int .i64 v0, .int .i64 v1, .int .i64 v2] 115)).cell? ⟨w3.heap.size, 0, none⟩ = some (.int .i64 v0) := by simp [go_sem]
    have xa1 : (w3.alloc (.cells #[.int .i64 v0, .int .i64 v1, .int .i64 v2] 115)).cell? ⟨w3.heap.size, 1, none⟩ = some (.int .i64 v1) := by simp [go_sem]
    have xa2 : (w3.alloc (.cells #[.int .i64 v0, .int .i64 v1, .int .i64 v2] 115)).cell? ⟨w3.heap.size, 2, none⟩ = some (.int .i64 v2) := by simp [go_sem]
    go_wp2
    clear hal hcs hfz b1 hD3 e0 e1 e2
    have hxg : g ≠ w3.heap.size := by omega
    have hxb : gb ≠ w3.heap.size := by omega
    generalize w3.alloc (.cells #[.int .i64 v0, .int .i64 v1, .int .i64 v2] 115) = wz at hDz xa0 xa1 xa2 ⊢
    generalize w3.heap.size = xb at xa0 xa1 xa2 hxg hxb ⊢
    obtain ⟨g', e, _, _, hcs, hfz, _⟩ := hDz.own.cells (by omega)
    cases e
    obtain ⟨u0, e0, wu0⟩ := hcs 0 (by omega)
    obtain ⟨u1, e1, wu1⟩ := hcs 1 (by omega)
    obtain ⟨u2, e2, wu2⟩ := hcs 2 (by omega)
    obtain ⟨u3, e3, wu3⟩ := hcs 3 (by omega)
    obtain ⟨u4, e4, wu4⟩ := hcs 4 (by omega)
    obtain ⟨u5, e5, wu5⟩ := hcs 5 (by omega)
    have f0 := hfz 0
    have f1 := hfz 1
    have f2 := hfz 2
    have b1 : wz.cell? ⟨gb, 1, none⟩ = some (.slice (some ⟨g, 0, none⟩) k gc) := hDz.box.cell (j := 1) (by omega)
    have hng : g ≠ gb := hDz.ne _ rfl
    have hng2 : gb ≠ g := fun e => hng e.symm
    have HD : Hid (DS w base c ao n cap w.heap.size gb (p : Int) (some ⟨g, 0, none⟩) k gc wz) := hDz
    have hk1 : (1 : Int) < (k : Int) := by omega
    have hk2 : (0 : Int) < (k : Int) := by omega
    clear hcs hfz hDz
    go_big_region
    have hDy := (((HD.out.put ⟨⟨hcl, hs1⟩, Nat.le_refl _⟩ (by omega) 0 u3 wu3).put ⟨⟨hcl, hs1⟩, Nat.le_refl _⟩ (by omega) 1 u4 wu4).put ⟨⟨hcl, hs1⟩, Nat.le_refl _⟩ (by omega) 2 u5 wu5).next (Below.refl _ _).drew
    have hgs := ((gr_setCell wz g 0 (.int .i64 u3)).trans (gr_setCell _ g 1 (.int .i64 u4))).trans (gr_setCell _ g 2 (.int .i64 u5))
    have ya0 : (((wz.setCell ⟨g, 0, none⟩ (.int .i64 u3)).setCell ⟨g, 1, none⟩ (.int .i64 u4)).setCell ⟨g, 2, none⟩ (.int .i64 u5)).drew.cell? ⟨xb, 0, none⟩ = some (.int .i64 v0) := hgs.cell xa0 (by simp; omega)
    have ya1 : (((wz.setCell ⟨g, 0, none⟩ (.int .i64 u3)).setCell ⟨g, 1, none⟩ (.int .i64 u4)).setCell ⟨g, 2, none⟩ (.int .i64 u5)).drew.cell? ⟨xb, 1, none⟩ = some (.int .i64 v1) := hgs.cell xa1 (by simp; omega)
    have ya2 : (((wz.setCell ⟨g, 0, none⟩ (.int .i64 u3)).setCell ⟨g, 1, none⟩ (.int .i64 u4)).setCell ⟨g, 2, none⟩ (.int .i64 u5)).drew.cell? ⟨xb, 2, none⟩ = some (.int .i64 v2) := hgs.cell xa2 (by simp; omega)
    clear HD e0 e1 e2 e3 e4 e5 f0 f1 f2 b1 xa0 xa1 xa2 hgs
    generalize (((wz.setCell ⟨g, 0, none⟩ (.int .i64 u3)).setCell ⟨g, 1, none⟩ (.int .i64 u4)).setCell ⟨g, 2, none⟩ (.int .i64 u5)).drew = wy at hDy ya0 ya1 ya2 ⊢
    obtain ⟨g', e, _, _, hcs, hfz, _⟩ := hDy.own.cells (by omega)
    cases e
    obtain ⟨t3, e3, wt3⟩ := hcs 3 (by omega)
    obtain ⟨t4, e4, wt4⟩ := hcs 4 (by omega)
    obtain ⟨t5, e5, wt5⟩ := hcs 5 (by omega)
    have f3 := hfz 3
    have f4 := hfz 4
    have f5 := hfz 5
    have b1 : wy.cell? ⟨gb, 1, none⟩ = some (.slice (some ⟨g, 0, none⟩) k gc) := hDy.box.cell (j := 1) (by omega)
    have hDx := ((hDy.put ⟨⟨hcl, hs1⟩, Nat.le_refl _⟩ (by omega) 3 v0 wv0).put ⟨⟨hcl, hs1⟩, Nat.le_refl _⟩ (by omega) 4 v1 wv1).put ⟨⟨hcl, hs1⟩, Nat.le_refl _⟩ (by omega) 5 v2 wv2
    have b0 : wy.cell? ⟨gb, 0, none⟩ = some (.int .i64 (p : Int)) := hDy.box.cell (j := 0) (by omega)
    have r0 : wy.cell? ⟨w.heap.size, 0, none⟩ = some (.int .i64 0) := hDy.res.cell (j := 0) (by omega)
    have r1 : wy.cell? ⟨w.heap.size, 1, none⟩ = some (.slice none 0 0) := hDy.res.cell (j := 1) (by omega)
    have y0 := hDy.res.frozen 0
    have y1 := hDy.res.frozen 1
    have hgr1 : g ≠ w.heap.size := by omega
    have hgr2 : w.heap.size ≠ g := by omega
    have hgr3 : w.heap.size ≠ gb := by omega
    obtain ⟨q0, q1, q2⟩ := res_cells hDx.res (p : Int) (.slice (some ⟨g, 0, none⟩) k gc)
    obtain ⟨o1, o2, o3⟩ := hDx.out ⟨⟨hcl, hs1⟩, Nat.le_refl _⟩ (.int .i64 (p : Int)) (.slice (some ⟨g, 0, none⟩) k gc)
    clear hcs hfz hDy
    go_wp2
    simp [bodyPost, results, Tryz.results101, go_sem, q0, q1, q2]
    exact ⟨_, _, _, _, ⟨rfl, rfl, rfl, rfl⟩, by omega, o1, o2, o3⟩

end Go.Proofs.YtokaechbmnbbiabGreat

/-
  Order, the document's, at every map of at most 2^20 arcs.
-/
set_option linter.unusedVariables false
set_option linter.unusedSimpArgs false
namespace Go.Proofs.YtokaechbmnbbiabGreat
open Go.RowKit
attribute [local go_sem ↓] Go.wp_at_zero Go.wp_at_succ

set_option maxHeartbeats 1000000 in
theorem specOrder_cap (p : Int) (ao : Option Addr) (n cap : Nat) (F T G : Nat → Int) (hn : n ≤ 1048576) (w : World) (hr : Row w ao n F T G) :
    Calls Tryz.prog 126 #[.agg #[.int .i64 p, .slice ao n cap]] w fun e w' => Ans w w' e (lenO p n F T G) (listO p n F T) ∧ ∀ ao m c, e = .returned (.slice ao m c) → m ≤ c := by
  rcases Bool.eq_false_or_eq_true (graphB p n F T G) with h | h
  rotate_left
  · have hL : lenO p n F T G = 0 := by simp [lenO, h]
    rw [hL]
    go_enter Tryz.func126, Tryz.ntmps126
    go_wp2_with (go_at_call 41; refine (specGraphOk_any p ao n cap F T G hn _ (hr.alloc _)).mono ?_; rintro e w1 ⟨rfl, hb1⟩)
    go_ret
    exact ⟨⟨_, _, rfl, fun h => by omega, unbox (hb1.alloc (by have := hb1.size; omega) _) (by simp)⟩, fun _ _ _ e => by cases e; exact Nat.le_refl _⟩
  have hpp : 1 ≤ p ∧ p ≤ 24 := by simpa [inB] using graphB_p h
  obtain ⟨pn, rfl⟩ : ∃ pn : Nat, p = (pn : Int) := ⟨p.toNat, by omega⟩
  have hL : lenO pn n F T G = pn := by simp [lenO, h]
  rw [hL]
  obtain ⟨⟨hp1, hp2⟩, hn1, hF, hT, hFT⟩ := ok_arcs h
  have HA : Hid ((∀ k, k < n → 0 ≤ F k ∧ F k < (pn : Int)) ∧ (∀ k, k < n → 0 ≤ T k ∧ T k < (pn : Int)) ∧ ∀ k, k < n → F k ≠ T k) := ⟨hF, hT, hFT⟩
  clear hL hF hT hFT hpp
  go_enter Tryz.func126, Tryz.ntmps126
  go_wp2_with (first | (go_at_call 41; refine (specGraphOk_any pn ao n cap F T G hn _ (hr.alloc _)).mono ?_; rintro e w1 ⟨rfl, hb1⟩; obtain ⟨hc, hf⟩ := bcell hb1) | (go_at_call 42; refine (l3Order_any pn ao n cap F T G hp1 hp2 hn1 HA.out.1 HA.out.2.1 HA.out.2.2 _ ((hr.alloc _).below hb1 (Nat.le_refl _))).mono ?_; rintro e w2 ⟨g, c, rfl, hg, hI, hb2, hrm⟩))
  go_ret
  exact ⟨⟨_, _, rfl, fun _ => ⟨g, rfl, by have := hb1.size; simp at this; omega, hI⟩, unbox (below_next hb1 (Nat.le_refl _) hb2) (by simp)⟩, fun _ _ _ e => by cases e; exact hrm⟩
end Go.Proofs.YtokaechbmnbbiabGreat

/-
  What an order is drawn as (l3DrawOrder).
-/
set_option linter.unusedVariables false
set_option linter.unusedSimpArgs false
namespace Go.Proofs.YtokaechbmnbbiabGreat
open Go.RowKit Go.Maps
attribute [local go_sem ↓] Go.wp_at_zero Go.wp_at_succ

structure OW (w : World) (base c : Nat) (ao : Option Addr) (n cap : Nat) (m og : Nat) (W : World) : Prop where
  cur : CurAt W base c ao n cap
  own : 0 < m → ∃ f, IHas W og m f
  gr : w.grownBy W (some c)
section
variable {w W W' : World} {base c : Nat} {ao : Option Addr} {n cap m og : Nat}
theorem OW.step (h : OW w base c ao n cap m og W) (hg0 : w.heap.size ≤ og) (hc : c < w.heap.size) (hC : CurAt W' base c ao n cap) (hg : W.grownBy W' (some c)) : OW w base c ao n cap m og W' :=
  ⟨hC, fun hm => by obtain ⟨f, hf⟩ := h.own hm; exact ⟨f, hf.grown hg (by simp; omega)⟩, h.gr.trans hg⟩
theorem OW.next (h : OW w base c ao n cap m og W) (hb : Below W.heap.size W W') : OW w base c ao n cap m og W' :=
  ⟨h.cur.next hb, fun hm => by obtain ⟨f, hf⟩ := h.own hm; exact ⟨f, hf.below hb hf.lt⟩, h.gr.trans ⟨hb.os, hb.tape, hb.output, hb.size, fun k hk _ => hb.block k hk⟩⟩
theorem OW.put (h : OW w base c ao n cap m og W) (hg0 : w.heap.size ≤ og) (hc : c < w.heap.size) (j : Nat) (v : Int) : OW w base c ao n cap m og (W.setCell ⟨og, j, none⟩ (.int .i64 v)) := by
  have hs := gr_setCell W og j (.int .i64 v)
  have hge := h.cur.ge
  exact ⟨h.cur.grown hs (by omega) (by omega), fun hm => by obtain ⟨f, hf⟩ := h.own hm; exact ⟨_, hf.set j v⟩, gr_far h.gr hs (fun g e => by cases e; exact Nat.le_refl _) hg0⟩
theorem OW.cell (h : OW w base c ao n cap m og W) {j : Nat} (hj : j < m) : (∃ v, W.cell? ⟨og, j, none⟩ = some (.int .i64 v)) ∧ W.frozen? ⟨og, j, none⟩ = false := by
  obtain ⟨f, hf⟩ := h.own (by omega)
  exact ⟨⟨_, hf.cell hj⟩, hf.frozen j⟩
end
theorem irowE {W : World} {aoO : Option Addr} {m og : Nat} (h1 : 0 < m → aoO = some ⟨og, 0, none⟩) (h2 : 0 < m → ∃ f, IHas W og m f) : IRow W aoO m (fun j => match W.cell? ⟨og, j, none⟩ with | some (.int _ v) => v | _ => 0) := fun k hk => by
  obtain ⟨f, hf⟩ := h2 (by omega)
  refine ⟨og, 0, h1 (by omega), ?_⟩
  have := hf.cell hk
  simp [this]
set_option maxRecDepth 100000 in
set_option maxHeartbeats 8000000 in
theorem l3DrawOrder_any (base c : Nat) (ao : Option Addr) (n cap : Nat) (p : Int) (go : Option Addr) (k gc : Nat) (F T G : Nat → Int) (hk : k ≤ 200) (w : World) (hC : CurAt w base c ao n cap) (hr : Row w go k F T G) :
    Calls Tryz.prog 102 #[.pointer (some ⟨c, 0, none⟩), .agg #[.int .i64 p, .slice go k gc]] w fun e w' => ∃ (po : Option Addr) (m pc : Nat) (P : Nat → Int), e = .returned (.slice po m pc) ∧ m ≤ 24 ∧ (∀ a, po = some a → 0 < m → w.heap.size ≤ a.block) ∧ IRow w' po m P ∧ CurAt w' base c ao n cap ∧ w.grownBy w' (some c) := by
  have hcl := hC.lt
  have hal := (Below.refl w.heap.size w).alloc (Nat.le_refl _) (.cells #[.int .i64 p, .slice go k gc] 26)
  have hk' : k ≤ 1048576 := by omega
  obtain ⟨m, hm⟩ : ∃ m, lenO p k F T G = m := ⟨_, rfl⟩
  obtain ⟨D, hD⟩ : ∃ D, listO p k F T = D := ⟨_, rfl⟩
  have hm24 : m ≤ 24 := by rw [← hm]; exact lenO_le p k F T G
  have hso := fun W hr' => specOrder_cap p go k gc F T G hk' W hr'
  rw [hm, hD] at hso
  have HSO : Hid (∀ W, Row W go k F T G → Calls Tryz.prog 126 #[.agg #[.int .i64 p, .slice go k gc]] W fun e w' => Ans W w' e m D ∧ ∀ ao m c, e = .returned (.slice ao m c) → m ≤ c) := hso
  clear hso hm hD
  go_enter Tryz.func102, Tryz.ntmps102
  go_wp2_with fail
  refine (HSO.out _ (hr.alloc _)).mono ?_
  rintro e w1 ⟨⟨aoO, capO, rfl, hO, hb1⟩, hcp⟩
  have hcap : m ≤ capO := hcp _ _ _ rfl
  clear hcp
  obtain ⟨og, hog1, hog2, hog3⟩ : ∃ og, (0 < m → aoO = some ⟨og, 0, none⟩) ∧ w.heap.size ≤ og ∧ (0 < m → ∃ f, IHas w1 og m f) := by
    by_cases h0 : 0 < m
    · obtain ⟨g, e, hge, hI⟩ := hO h0
      simp only [World.size_alloc] at hge
      exact ⟨g, fun _ => e, by omega, fun _ => ⟨_, hI⟩⟩
    · exact ⟨w.heap.size, fun h => absurd h h0, Nat.le_refl _, fun h => absurd h h0⟩
  have hW1 : OW w base c ao n cap m og w1 := ⟨(hC.next hal).next hb1, hog3, ⟨(below_next hal (Nat.le_refl _) hb1).os, (below_next hal (Nat.le_refl _) hb1).tape, (below_next hal (Nat.le_refl _) hb1).output, (below_next hal (Nat.le_refl _) hb1).size, fun k hk _ => (below_next hal (Nat.le_refl _) hb1).block k hk⟩⟩
  clear hO hb1 hog3 hal hr
  go_wp2_with fail
  refine (l1Below_any _ c ao n cap 5 (by omega) (by omega) _ hW1.cur).mono ?_
  rintro e w2 ⟨y, rfl, hy, hC2, hg2⟩
  have hW2 := hW1.step hog2 hcl hC2 hg2
  clear hW1 hC2 hg2
  go_wp2_with fail
  go_loopw [6] (fun x wr => ∃ j : Nat, j ≤ 5 ∧ x = .int .i64 j ∧ OW w base c ao n cap m og wr) (fun x _ => (intOf x).toNat)
  case atStart => exact ⟨y, by omega, rfl, hW2⟩
  case round =>
    clear hW2
    obtain ⟨j, hj, rfl, hW⟩ := hrel
    by_cases hlt : 0 < j ∧ 1 < m
    rotate_left
    · have hwo : Hid (OW w base c ao n cap m og wr) := hW
      go_wp2_with fail
      all_goals
        refine (l1Once_any _ c ao n cap 14 (by omega) (by omega) _ hwo.out.cur).mono ?_
        rintro e w3 ⟨bx, rfl, hC3, hg3⟩
        have hW3 := hwo.out.step hog2 hcl hC3 hg3
        clear hC3 hg3
        cases bx
        · go_wp2
          go_ret
          exact ⟨aoO, m, capO, _, rfl, hm24, fun a e h => by rw [hog1 h] at e; cases e; exact hog2, irowE hog1 hW3.own, hW3.cur, hW3.gr⟩
        · by_cases hm0 : 0 < m
          rotate_left
          · have hm0' : ¬ 0 < (m : Int) := by omega
            go_wp2
            go_ret
            exact ⟨aoO, m, capO, _, rfl, hm24, fun a e h => by rw [hog1 h] at e; cases e; exact hog2, irowE hog1 hW3.own, hW3.cur, hW3.gr⟩
          have hm0' : 0 < (m : Int) := by omega
          go_wp2_with fail
          refine (l1Below_any _ c ao n cap 2 (by omega) (by omega) _ hW3.cur).mono ?_
          rintro e w4 ⟨z, rfl, hz, hC4, hg4⟩
          have hW4 := hW3.step hog2 hcl hC4 hg4
          clear hC4 hg4 hW3
          have hz2 : z = 0 ∨ z = 1 := by omega
          rcases hz2 with rfl | rfl
          · have hq1 := hog1 hm0
            subst hq1
            go_wp2_with fail
            refine (l1Below_any _ c ao n cap m (by omega) (by omega) _ hW4.cur).mono ?_
            rintro e w5 ⟨i, rfl, hi, hC5, hg5⟩
            have hW5 := hW4.step hog2 hcl hC5 hg5
            clear hC5 hg5 hW4
            have hal5 := (Below.refl w5.heap.size w5).alloc (Nat.le_refl _) (.cells #[.int .i64 (-1), .int .i64 0, .int .i64 24, .int .i64 3] 2)
            have hW6 := hW5.next hal5
            have hcl5 := hW5.cur.lt
            clear hW5
            go_wp2_with fail
            refine (l1Below_any _ c ao n cap 4 (by omega) (by omega) _ hW6.cur).mono ?_
            rintro e w7 ⟨x, rfl, hx, hC7, hg7⟩
            have hW7 := hW6.step hog2 hcl hC7 hg7
            obtain ⟨v, hv⟩ := lit4 ((hg7.block w5.heap.size (by simp) (by simp <;> omega)).trans (Go.Deep.blk_alloc_new _ _)) (show x < 4 by omega)
            have hx4 : (x : Int) < 4 := by omega
            have him : i < m := by omega
            obtain ⟨⟨v1, c1⟩, z1⟩ := hW7.cell him
            have hW8 := hW7.put hog2 hcl i v
            clear hC7 hg7 hW6 hal5
            have HW8 : Hid (OW w base c ao n cap m og (w7.setCell ⟨og, i, none⟩ (.int .i64 v))) := hW8
            clear hW8 hW7
            go_wp2
            go_ret
            exact ⟨_, m, capO, _, rfl, hm24, fun a e h => by cases e; exact hog2, irowE (fun _ => rfl) HW8.out.own, HW8.out.cur, HW8.out.gr⟩
          · obtain rfl := hog1 hm0
            by_cases hc1 : capO = 1
            · subst hc1
              have hm1 : m = 1 := by omega
              subst hm1
              go_wp2
              go_ret
              exact ⟨_, _, _, fun _ => 0, rfl, by omega, fun a e h => by omega, fun q hq => by omega, hW4.cur, hW4.gr⟩
            · have hc2 : 1 < capO := by omega
              go_wp2
              go_ret
              obtain ⟨f, hf⟩ := hW4.own hm0
              exact ⟨_, _, _, fun q => f (q + 1), rfl, by omega, fun a e h => by cases e; exact hog2, fun q hq => ⟨og, 1, rfl, by rw [Nat.add_comm]; exact hf.cell (by omega)⟩, hW4.cur, hW4.gr⟩
    obtain ⟨hj0, hm1⟩ := hlt
    have hj0' : 0 < (j : Int) := by omega
    have hm1' : 1 < (m : Int) := by omega
    obtain rfl := hog1 (by omega)
    go_wp2_with fail
    refine (l1Below_any _ c ao n cap m (by omega) (by omega) _ hW.cur).mono ?_
    rintro e w3 ⟨i, rfl, hi, hC3, hg3⟩
    have hW3 := hW.step hog2 hcl hC3 hg3
    clear hC3 hg3 hW
    go_wp2_with fail
    refine (l1Below_any _ c ao n cap m (by omega) (by omega) _ hW3.cur).mono ?_
    rintro e w4 ⟨k', rfl, hk2, hC4, hg4⟩
    have hW4 := hW3.step hog2 hcl hC4 hg4
    clear hC4 hg4 hW3
    have him : i < m := by omega
    have hkm : k' < m := by omega
    obtain ⟨⟨v1, c1⟩, z1⟩ := hW4.cell him
    obtain ⟨⟨v2, c2⟩, z2⟩ := hW4.cell hkm
    have HP : Hid (OW w base c ao n cap m og ((w4.setCell ⟨og, i, none⟩ (.int .i64 v2)).setCell ⟨og, k', none⟩ (.int .i64 v1))) := (hW4.put hog2 hcl i v2).put hog2 hcl k' v1
    clear hW4
    by_cases hik : i = k'
    · subst hik
      rw [c1] at c2
      simp at c2
      subst c2
      go_wp2
      go_roundw
      case rel => exact ⟨j - 1, by omega, by rw [show ((j - 1 : Nat) : Int) = (j : Int) - 1 by omega], HP.out⟩
      case measure => simp [intOf]; omega
    · have hik2 : ¬ k' = i := fun e => hik e.symm
      go_wp2
      go_roundw
      case rel => exact ⟨j - 1, by omega, by rw [show ((j - 1 : Nat) : Int) = (j : Int) - 1 by omega], HP.out⟩
      case measure => simp [intOf]; omega

end Go.Proofs.YtokaechbmnbbiabGreat

/-
  The fill at every map and every list: the document's answer, in new memory.
-/
set_option linter.unusedVariables false
set_option linter.unusedSimpArgs false
namespace Go.Proofs.YtokaechbmnbbiabGreat
open Go.RowKit
attribute [local go_sem ↓] Go.wp_at_zero Go.wp_at_succ

set_option maxHeartbeats 1000000 in
theorem specFill_own (p : Int) (ao : Option Addr) (n cap : Nat) (F T G : Nat → Int) (po : Option Addr) (m pcap : Nat) (P : Nat → Int) (hn : n ≤ 1048576) (hm : m ≤ 1048576) (w : World) (hr : Row w ao n F T G) (hq : IRow w po m P) :
    Calls Tryz.prog 125 #[.agg #[.int .i64 p, .slice ao n cap], .slice po m pcap] w fun e w' => ∃ g c l, e = .returned (.slice (some ⟨g, 0, none⟩) l.length c) ∧ l = (if ordB p n F T G m P then lstF p n F T P else []) ∧ EOwn w' w.heap.size g c l ∧ Below w.heap.size w w' := by
  rcases Bool.eq_false_or_eq_true (ordB p n F T G m P) with h | h
  rotate_left
  · rw [h]
    go_enter Tryz.func125, Tryz.ntmps125
    go_wp2_with (go_at_call 36; refine (specOrderOk_any p ao n cap F T G po m pcap P hn hm _ (hr.alloc _) (hq.alloc _)).mono ?_; rintro e w1 ⟨rfl, hb1⟩)
    go_ret
    have hz := hb1.size
    simp at hz
    exact ⟨w1.heap.size, 0, [], rfl, rfl, EOwn.empty w1 (by omega), unbox (hb1.alloc (by have := hb1.size; omega) _) (by simp)⟩
  obtain ⟨hmp, hg, ⟨hm1, hm2⟩, he⟩ := ordB_parts h
  subst hmp
  have hS : lstF m n F T P = allS (nbA F T n) P m m := by simp [lstF]
  rw [h, hS]
  obtain ⟨_, hn1, hF, hT, hFT⟩ := ok_arcs hg
  have HA : Hid ((∀ k, k < n → 0 ≤ F k ∧ F k < (m : Int)) ∧ (∀ k, k < n → 0 ≤ T k ∧ T k < (m : Int)) ∧ (∀ k, k < n → F k ≠ T k) ∧ eachB m P m = true) := ⟨hF, hT, hFT, he⟩
  clear hS hF hT hFT he
  go_enter Tryz.func125, Tryz.ntmps125
  go_wp2_with (first | (go_at_call 36; refine (specOrderOk_any m ao n cap F T G po m pcap P hn hm _ (hr.alloc _) (hq.alloc _)).mono ?_; rintro e w1 ⟨rfl, hb1⟩; obtain ⟨hc, hf⟩ := bcell hb1) | (go_at_call 37; refine (l4Fill_any m ao n cap F T G po pcap P hm1 hm2 hn1 HA.out.1 HA.out.2.1 HA.out.2.2.1 HA.out.2.2.2 _ ((hr.alloc _).below hb1 (Nat.le_refl _)) ((hq.alloc _).below hb1 (Nat.le_refl _))).mono ?_; rintro e w2 ⟨g, c, rfl, hg2, hE, hb2⟩))
  go_ret
  exact ⟨g, c, _, rfl, rfl, hE.from (by have := hb1.size; simp at this; omega), unbox (below_next hb1 (Nat.le_refl _) hb2) (by simp)⟩

end Go.Proofs.YtokaechbmnbbiabGreat

/-
  Edges that are drawn: a list of the call's own, cut, put to.
-/
set_option linter.unusedVariables false
set_option linter.unusedSimpArgs false
namespace Go.Proofs.YtokaechbmnbbiabGreat
open Go.RowKit Go.Maps
attribute [local go_sem ↓] Go.wp_at_zero Go.wp_at_succ

theorem lit6 {W : World} {b : Nat} {a0 a1 a2 a3 a4 a5 : Int} {t : TypeId} (h : W.heap[b]? = some (.cells #[.int .i64 a0, .int .i64 a1, .int .i64 a2, .int .i64 a3, .int .i64 a4, .int .i64 a5] t (0, 0))) {y : Nat} (hy : y < 6) : ∃ v, W.cell? ⟨b, y, none⟩ = some (.int .i64 v) := by
  have : y = 0 ∨ y = 1 ∨ y = 2 ∨ y = 3 ∨ y = 4 ∨ y = 5 := by omega
  rcases this with rfl | rfl | rfl | rfl | rfl | rfl <;> exact ⟨_, by simp [World.cell?, h]; rfl⟩
section
variable {w W W' : World} {base c : Nat} {ao : Option Addr} {n cap g ec : Nat} {l : List (Int × Int)}
end

end Go.Proofs.YtokaechbmnbbiabGreat

/-
  A list of numbers of the call's own, or none yet, that grows by one.
-/
set_option linter.unusedVariables false
set_option linter.unusedSimpArgs false
namespace Go.Proofs.YtokaechbmnbbiabGreat
open Go.RowKit

def OwnE (w : World) (base : Nat) (go : Option Addr) (n cap : Nat) (f : Nat → Int) : Prop := w.ownsRow base 2 1 (.slice go n cap) n (icells f n)
theorem OwnE.nil (w : World) (base : Nat) (f : Nat → Int) : OwnE w base none 0 0 f := ⟨by simp [icells], .inl ⟨rfl, rfl⟩⟩
theorem OwnE.at {w : World} {base n cap x : Nat} {go : Option Addr} {f : Nat → Int} (h : OwnE w base go n cap f) (e : (Value.slice go n cap).ownBlock = some x) : base ≤ x ∧ x < w.heap.size := World.ownsRow.lt h x e
theorem OwnE.of_block {w w' : World} {base n cap : Nat} {go : Option Addr} {f : Nat → Int} (h : OwnE w base go n cap f) (e : ∀ x, (Value.slice go n cap).ownBlock = some x → w'.heap[x]? = w.heap[x]?) : OwnE w' base go n cap f := by
  refine ⟨h.1, ?_⟩
  rcases h.2 with hn | ⟨g', cap', cur, hv, hb', hgg, rest⟩
  · exact .inl hn
  · have e2 := e g' (by rw [hv]; rfl)
    exact .inr ⟨g', cap', cur, hv, hb', e2.trans hgg, rest⟩
theorem OwnE.next {w w' : World} {base n cap : Nat} {go : Option Addr} {f : Nat → Int} (h : OwnE w base go n cap f) (hb : Below w.heap.size w w') : OwnE w' base go n cap f := h.of_block (fun x e => hb.block x (h.at e).2)
theorem OwnE.grown {w w' : World} {base n cap : Nat} {go : Option Addr} {f : Nat → Int} {row : Option Nat} (h : OwnE w base go n cap f) (hg : w.grownBy w' row) (hne : ∀ x, (Value.slice go n cap).ownBlock = some x → row ≠ some x) : OwnE w' base go n cap f := h.of_block (fun x e => hg.block x (h.at e).2 (fun q => hne x e q.symm))
theorem OwnE.has {w : World} {base n cap : Nat} {go : Option Addr} {f : Nat → Int} (h : OwnE w base go n cap f) (hn : 0 < n) : ∃ g, go = some ⟨g, 0, none⟩ ∧ base ≤ g ∧ IHas w g n f := by
  have h' := h
  obtain ⟨hl, h0 | ⟨g', cap', cur, hv, hb, hh, h1, h2, h3, h4⟩⟩ := h
  · omega
  · simp at hv
    obtain ⟨rfl, rfl⟩ := hv
    refine ⟨g', rfl, hb, cur, hh, by omega, fun j hj => ?_⟩
    have : (cur.toList.take (n * 1))[j]? = (icells f n)[j]? := by rw [h4]
    rw [List.getElem?_take_of_lt (by omega), icells_at hj] at this
    simpa using this
def Cap (w : World) (b cap : Nat) : Prop := ∃ cur : Array Value, w.heap[b]? = some (.cells cur 2 (0, 0)) ∧ cap ≤ maxLen ∧ cur.size = cap
theorem Cap.of_block {w w' : World} {b cap : Nat} (h : Cap w b cap) (e : w'.heap[b]? = w.heap[b]?) : Cap w' b cap := by
  obtain ⟨c, h1, h2, h3⟩ := h
  exact ⟨c, e.trans h1, h2, h3⟩
theorem Cap.lt {w : World} {b cap : Nat} (h : Cap w b cap) : b < w.heap.size := by
  obtain ⟨c, h1, h2, h3⟩ := h
  exact (Array.getElem?_eq_some_iff.1 h1).1
theorem Cap.set {w : World} {b cap : Nat} (h : Cap w b cap) (j : Nat) (v : Value) : Cap (w.setCell ⟨b, j, none⟩ v) b cap := by
  obtain ⟨c, h1, h2, h3⟩ := h
  exact ⟨c.setIfInBounds j v, by simp [World.setCell, Array.getElem?_modify, h1], h2, by simpa using h3⟩
theorem Cap.own {w : World} {b n cap base : Nat} {f : Nat → Int} (h : Cap w b cap) (hi : IHas w b n f) (hb : base ≤ b) : OwnE w base (some ⟨b, 0, none⟩) n cap f := by
  obtain ⟨c, h1, h2, h3⟩ := h
  obtain ⟨d, g1, g2, g3⟩ := hi
  rw [h1] at g1
  simp at g1
  subst g1
  refine ⟨by simp [icells], .inr ⟨b, cap, c, rfl, hb, h1, by omega, h2, by omega, ?_⟩⟩
  apply List.ext_getElem?
  intro j
  by_cases hj : j < n
  · rw [List.getElem?_take_of_lt (by omega), icells_at hj]
    simpa using g3 j hj
  · rw [List.getElem?_eq_none (by simp; omega), List.getElem?_eq_none (by simp [icells]; omega)]
theorem OwnE.capAt {w : World} {base n cap g : Nat} {go : Option Addr} {f : Nat → Int} (h : OwnE w base go n cap f) (e : go = some ⟨g, 0, none⟩) : Cap w g cap := by
  obtain ⟨hl, h0 | ⟨g', cap', cur, hv, hb, hh, h1, h2, h3, h4⟩⟩ := h
  · rw [e] at h0; simp at h0
  · rw [e] at hv
    simp at hv
    obtain ⟨rfl, rfl⟩ := hv
    exact ⟨cur, hh, h2, by omega⟩
theorem OwnE.room {w : World} {base n cap g : Nat} {go : Option Addr} {f : Nat → Int} (h : OwnE w base go n cap f) (e : go = some ⟨g, 0, none⟩) : n ≤ cap := by
  obtain ⟨hl, h0 | ⟨g', cap', cur, hv, hb, hh, h1, h2, h3, h4⟩⟩ := h
  · rw [e] at h0; simp at h0
  · rw [e] at hv
    simp at hv
    obtain ⟨rfl, rfl⟩ := hv
    exact h1
theorem wp_append_own {o : Oper} {a : Act} {w : World} {K : Act → World → Prop} {Q : Exit → Act → World → Prop} (s x : Operand)
    (ho : o.op = .call { callee := .builtin .append, args := #[s, x], argTypes := #[27, 27] }) (base k gc : Nat) (go : Option Addr) (f : Nat → Int) (hs : a.eval s = .slice go k gc) (hown : OwnE w base go k gc f) (B : Nat) (hx : a.eval x = .slice (some ⟨B, 0, none⟩) 1 1)
    (hB : w.cell? ⟨B, 0, none⟩ = some (.int .i64 (f k))) (hk : k ≤ 100000000) (hbase : base ≤ w.heap.size)
    (h : ∀ g' gc' w', OwnE w' base (some ⟨g', 0, none⟩) (k + 1) gc' f → w.grownBy w' (Value.slice go k gc).ownBlock → ((Value.slice go k gc).ownBlock = some g' ∨ g' = w.heap.size) → K (a.put o.dst (.slice (some ⟨g', 0, none⟩) (k + 1) gc')) w') : o.wp Tryz.prog a w K Q := by
  obtain ⟨i0, hi0, hz0, hz1, hz2⟩ := info_parts Tryz.infoInt
  refine wp_append_lies w s x 27 ho base 2 i0 _ 1 8 Tryz.underlying27 hi0 hz0 hz1 hz2 rfl (by omega) _ k (icells f k) hs hown ⟨B, 0, none⟩ 1 1 [.int .i64 (f k)] hx rfl ?_ ?_ (by omega) (by unfold maxLen; omega) (by omega) hbase w.heap.size rfl ?_
  · intro j u hu
    match j, hu with
    | 0, hu => simp at hu; subst hu; exact hB
    | j + 1, hu => simp at hu
  · intro u hu
    simp at hu
    subst hu; rfl
  · intro g' gc' w' hown' hgrow hat _
    rw [icells_put (f k) (fun _ _ => rfl) rfl] at hown'
    exact h g' gc' w' hown' hgrow hat
theorem step_append_own {ops : Array Oper} {o : Oper} {a : Act} {w : World} {K : Act → World → Prop} {Q : Exit → Act → World → Prop} {E : Prop} (hgd : o.guard = none) (s x : Operand)
    (ho : o.op = .call { callee := .builtin .append, args := #[s, x], argTypes := #[27, 27] }) (base k gc : Nat) (go : Option Addr) (f : Nat → Int) (hs : a.eval s = .slice go k gc) (hown : OwnE w base go k gc f) (B : Nat) (hx : a.eval x = .slice (some ⟨B, 0, none⟩) 1 1)
    (hB : w.cell? ⟨B, 0, none⟩ = some (.int .i64 (f k))) (hk : k ≤ 100000000) (hbase : base ≤ w.heap.size)
    (h : ∀ g' gc' w', OwnE w' base (some ⟨g', 0, none⟩) (k + 1) gc' f → w.grownBy w' (Value.slice go k gc).ownBlock → ((Value.slice go k gc).ownBlock = some g' ∨ g' = w.heap.size) → K (a.put o.dst (.slice (some ⟨g', 0, none⟩) (k + 1) gc')) w') :
    if Region.wanted o (yielded ops a.tmps) = true then Oper.wp Tryz.prog o a w K Q else E := by
  have hw : Region.wanted o (yielded ops a.tmps) = true := by simp [Region.wanted, hgd]
  rw [if_pos hw]
  exact wp_append_own s x ho base k gc go f hs hown B hx hB hk hbase h

end Go.Proofs.YtokaechbmnbbiabGreat

/-
  What a call has turned: some blocks, named in a list; all else that lay lies as it lay.
-/
set_option linter.unusedVariables false
set_option linter.unusedSimpArgs false
namespace Go.Proofs.YtokaechbmnbbiabGreat
open Go.RowKit

structure Turns (w w' : World) (S : List Nat) : Prop where
  os : w'.os = w.os
  tape : w'.tape = w.tape
  output : w'.output = w.output
  size : w.heap.size ≤ w'.heap.size
  block : ∀ k, k < w.heap.size → k ∉ S → w'.heap[k]? = w.heap[k]?
theorem Turns.refl (w : World) (S : List Nat) : Turns w w S := ⟨rfl, rfl, rfl, Nat.le_refl _, fun _ _ _ => rfl⟩
theorem Turns.of_below {w w' : World} {B : Nat} (h : Below B w w') (hB : w.heap.size ≤ B) (S : List Nat) : Turns w w' S := ⟨h.os, h.tape, h.output, h.size, fun k hk _ => h.block k (by omega)⟩
theorem Turns.of_grown {w w' : World} {b : Nat} (h : w.grownBy w' (some b)) : Turns w w' [b] := ⟨h.os, h.tape, h.output, h.size, fun k hk hn => h.block k hk (fun e => hn (by simp at e; simp [e]))⟩
theorem Turns.trans {w w1 w2 : World} {S : List Nat} (h : Turns w w1 S) (k : Turns w1 w2 S) : Turns w w2 S :=
  ⟨k.os.trans h.os, k.tape.trans h.tape, k.output.trans h.output, Nat.le_trans h.size k.size, fun j hj hn => (k.block j (Nat.lt_of_lt_of_le hj h.size) hn).trans (h.block j hj hn)⟩
theorem Turns.more {w w' : World} {S S' : List Nat} (h : Turns w w' S) (hs : ∀ x ∈ S, x ∈ S') : Turns w w' S' := ⟨h.os, h.tape, h.output, h.size, fun k hk hn => h.block k hk (fun hx => hn (hs k hx))⟩
theorem Turns.next {w w1 w2 : World} {S : List Nat} (h : Turns w w1 S) (hb : Below w1.heap.size w1 w2) : Turns w w2 S := h.trans (Turns.of_below hb (Nat.le_refl _) S)
theorem Turns.below {w w' : World} {S : List Nat} {B : Nat} (h : Turns w w' S) (hB : B ≤ w.heap.size) (hs : ∀ x ∈ S, B ≤ x) : Below B w w' :=
  ⟨h.os, h.tape, h.output, h.size, fun k hk => h.block k (by omega) (fun hx => by have := hs k hx; omega)⟩
theorem Turns.cell {w w' : World} {S : List Nat} {b o : Nat} {v : Value} (h : Turns w w' S) (hb : b ∉ S) (hc : w.cell? ⟨b, o, none⟩ = some v) : w'.cell? ⟨b, o, none⟩ = some v := by
  rw [World.cell?_of_block (h.block b (lt_of_cell hc) hb)]
  exact hc
theorem ihas_ehas {W : World} {b n m : Nat} {f g : Nat → Int} (h : IHas W b n f) (k : EHas W b m g) : False := by
  obtain ⟨c, h1, _⟩ := h
  obtain ⟨d, h2, _⟩ := k
  rw [h1] at h2
  simp at h2
end Go.Proofs.YtokaechbmnbbiabGreat

/-
  A list of numbers of the call's own, or none yet, that grows by one: the law for the walk.
-/
set_option linter.unusedVariables false
set_option linter.unusedSimpArgs false
namespace Go.Proofs.YtokaechbmnbbiabGreat
open Go.RowKit

def me2 (a b : Value) (j : Nat) : Value := if j = 0 then a else b
structure CS (w : World) (c0 c1 c2 c3 : Value) (go : Option Addr) (j gc : Nat) (U : Nat → Int) (ho : Option Addr) (j' hc : Nat) (V : Nat → Int) (W : World) : Prop where
  bel : Below w.heap.size w W
  g0 : W.cell? ⟨w.heap.size, 0, none⟩ = some c0
  g1 : W.cell? ⟨w.heap.size, 1, none⟩ = some c1
  h0 : W.cell? ⟨w.heap.size + 1, 0, none⟩ = some c2
  h1 : W.cell? ⟨w.heap.size + 1, 1, none⟩ = some c3
  res : VHas W (w.heap.size + 2) 34 2 (me2 (.slice none 0 0) (.slice none 0 0))
  box : VHas W (w.heap.size + 3) 34 2 (me2 (.slice go j gc) (.slice ho j' hc))
  own1 : OwnE W (w.heap.size + 4) go j gc U
  own2 : OwnE W (w.heap.size + 4) ho j' hc V
  sep : ∀ x, (Value.slice go j gc).ownBlock = some x → (Value.slice ho j' hc).ownBlock ≠ some x
section
variable {w : World} {c0 c1 c2 c3 : Value} {go : Option Addr} {j gc : Nat} {U : Nat → Int} {ho : Option Addr} {j' hc : Nat} {V : Nat → Int} {W W' : World}
theorem CS.next (h : CS w c0 c1 c2 c3 go j gc U ho j' hc V W) (hb : Below W.heap.size W W') : CS w c0 c1 c2 c3 go j gc U ho j' hc V W' :=
  ⟨below_next h.bel (Nat.le_refl _) hb, keep_cell hb (Nat.le_refl _) h.g0, keep_cell hb (Nat.le_refl _) h.g1, keep_cell hb (Nat.le_refl _) h.h0, keep_cell hb (Nat.le_refl _) h.h1, h.res.next hb, h.box.next hb, h.own1.next hb, h.own2.next hb, h.sep⟩
theorem cell_far {W W' : World} {b o B : Nat} {v : Value} {row : Option Nat} (h : W.cell? ⟨b, o, none⟩ = some v) (hg : W.grownBy W' row) (hr : ∀ x, row = some x → B ≤ x) (hb : b < B) : W'.cell? ⟨b, o, none⟩ = some v := by
  have hl := lt_of_cell h
  have := hg.block b hl (fun e => by have := hr b e.symm; omega)
  simpa [World.cell?, this] using h
theorem below_far {w W W' : World} {B : Nat} {row : Option Nat} (h : Below w.heap.size w W) (hg : W.grownBy W' row) (hr : ∀ x, row = some x → B ≤ x) (hb : w.heap.size ≤ B) : Below w.heap.size w W' :=
  ⟨hg.os.trans h.os, hg.tape.trans h.tape, hg.output.trans h.output, Nat.le_trans h.size hg.size, fun k hk => (hg.block k (Nat.lt_of_lt_of_le hk h.size) (fun e => by have := hr k e.symm; omega)).trans (h.block k hk)⟩
theorem VHas.far {W W' : World} {b n B : Nat} {t : TypeId} {f : Nat → Value} {row : Option Nat} (h : VHas W b t n f) (hg : W.grownBy W' row) (hr : ∀ x, row = some x → B ≤ x) (hb : b < B) : VHas W' b t n f := h.grown hg (fun e => by have := hr b e.symm; omega)
theorem CS.app1 (h : CS w c0 c1 c2 c3 go j gc U ho j' hc V W) (hg : W.grownBy W' (Value.slice go j gc).ownBlock) {g' gc' : Nat} (hown : OwnE W' (w.heap.size + 4) (some ⟨g', 0, none⟩) (j + 1) gc' U) (hat : (Value.slice go j gc).ownBlock = some g' ∨ g' = W.heap.size) :
    CS w c0 c1 c2 c3 (some ⟨g', 0, none⟩) (j + 1) gc' U ho j' hc V (W'.setCell ⟨w.heap.size + 3, 0, none⟩ (.slice (some ⟨g', 0, none⟩) (j + 1) gc')) := by
  have hr : ∀ x, (Value.slice go j gc).ownBlock = some x → w.heap.size + 4 ≤ x := fun x e => (h.own1.at e).1
  have hs := gr_setCell W' (w.heap.size + 3) 0 (.slice (some ⟨g', 0, none⟩) (j + 1) gc')
  have hr2 : ∀ x, some (w.heap.size + 3) = some x → w.heap.size + 3 ≤ x := fun x e => by cases e; exact Nat.le_refl _
  have hl := h.box.lt
  refine ⟨below_far (below_far h.bel hg hr (by omega)) hs hr2 (by omega), cell_far (cell_far h.g0 hg hr (by omega)) hs hr2 (by omega), cell_far (cell_far h.g1 hg hr (by omega)) hs hr2 (by omega), cell_far (cell_far h.h0 hg hr (by omega)) hs hr2 (by omega), cell_far (cell_far h.h1 hg hr (by omega)) hs hr2 (by omega), (h.res.far hg hr (by omega)).far hs hr2 (by omega), ?_, ?_, ?_, ?_⟩
  · refine ((h.box.far hg hr (by omega)).set 0 _).congr (fun i hi => ?_)
    have : i = 0 ∨ i = 1 := by omega
    rcases this with rfl | rfl <;> rfl
  · refine hown.grown hs (fun x e => ?_)
    have := (hown.at e).1
    simp; omega
  · refine (h.own2.grown hg (fun x e q => h.sep x q e)).grown hs (fun x e => ?_)
    have := (h.own2.at e).1
    simp; omega
  · intro x e q
    simp [Value.ownBlock] at e
    subst e
    rcases hat with e | e
    · exact h.sep _ e q
    · have := (h.own2.at q).2
      omega
theorem CS.app2 (h : CS w c0 c1 c2 c3 go j gc U ho j' hc V W) (hg : W.grownBy W' (Value.slice ho j' hc).ownBlock) {g' gc' : Nat} (hown : OwnE W' (w.heap.size + 4) (some ⟨g', 0, none⟩) (j' + 1) gc' V) (hat : (Value.slice ho j' hc).ownBlock = some g' ∨ g' = W.heap.size) :
    CS w c0 c1 c2 c3 go j gc U (some ⟨g', 0, none⟩) (j' + 1) gc' V (W'.setCell ⟨w.heap.size + 3, 1, none⟩ (.slice (some ⟨g', 0, none⟩) (j' + 1) gc')) := by
  have hr : ∀ x, (Value.slice ho j' hc).ownBlock = some x → w.heap.size + 4 ≤ x := fun x e => (h.own2.at e).1
  have hs := gr_setCell W' (w.heap.size + 3) 1 (.slice (some ⟨g', 0, none⟩) (j' + 1) gc')
  have hr2 : ∀ x, some (w.heap.size + 3) = some x → w.heap.size + 3 ≤ x := fun x e => by cases e; exact Nat.le_refl _
  have hl := h.box.lt
  refine ⟨below_far (below_far h.bel hg hr (by omega)) hs hr2 (by omega), cell_far (cell_far h.g0 hg hr (by omega)) hs hr2 (by omega), cell_far (cell_far h.g1 hg hr (by omega)) hs hr2 (by omega), cell_far (cell_far h.h0 hg hr (by omega)) hs hr2 (by omega), cell_far (cell_far h.h1 hg hr (by omega)) hs hr2 (by omega), (h.res.far hg hr (by omega)).far hs hr2 (by omega), ?_, ?_, ?_, ?_⟩
  · refine ((h.box.far hg hr (by omega)).set 1 _).congr (fun i hi => ?_)
    have : i = 0 ∨ i = 1 := by omega
    rcases this with rfl | rfl <;> rfl
  · refine (h.own1.grown hg (fun x e q => h.sep x e q)).grown hs (fun x e => ?_)
    have := (h.own1.at e).1
    simp; omega
  · refine hown.grown hs (fun x e => ?_)
    have := (hown.at e).1
    simp; omega
  · intro x e q
    simp [Value.ownBlock] at q
    subst q
    rcases hat with q | q
    · exact h.sep _ e q
    · have := (h.own1.at e).2
      omega
end
def MAns (w w' : World) (e : Ending) (m : Nat) (U D : Nat → Int) : Prop := ∃ ao cap eo ecap, e = .returned (.agg #[.slice ao m cap, .slice eo m ecap]) ∧ (0 < m → ∃ b c, ao = some ⟨b, 0, none⟩ ∧ eo = some ⟨c, 0, none⟩ ∧ w.heap.size ≤ b ∧ w.heap.size ≤ c ∧ b ≠ c ∧ IHas w' b m U ∧ IHas w' c m D) ∧ w.heap.size + 2 ≤ w'.heap.size ∧ Below w.heap.size w w'
def MAnsO (w w' : World) (e : Ending) (m : Nat) (U D : Nat → Int) : Prop := ∃ ao cap eo ecap, e = .returned (.agg #[.slice ao m cap, .slice eo m ecap]) ∧ (0 < m → ∃ b c, ao = some ⟨b, 0, none⟩ ∧ eo = some ⟨c, 0, none⟩ ∧ w.heap.size ≤ b ∧ w.heap.size ≤ c ∧ b ≠ c ∧ IHas w' b m U ∧ IHas w' c m D ∧ Cap w' c ecap ∧ m ≤ cap) ∧ w.heap.size + 2 ≤ w'.heap.size ∧ Below w.heap.size w w'
theorem mans_of {w w' : World} {e : Ending} {m : Nat} {U D : Nat → Int} (h : MAnsO w w' e m U D) : MAns w w' e m U D := by
  obtain ⟨ao, cap, eo, ecap, h1, h2, h3⟩ := h
  exact ⟨ao, cap, eo, ecap, h1, fun h0 => by
    obtain ⟨b, c, q1, q2, q3, q4, q5, q6, q7, _⟩ := h2 h0
    exact ⟨b, c, q1, q2, q3, q4, q5, q6, q7⟩, h3⟩
theorem me2_new (w : World) (a b : Value) : VHas (w.alloc (.cells #[a, b] 34)) w.heap.size 34 2 (me2 a b) :=
  ⟨_, Go.Deep.blk_alloc_new _ _, by simp, fun j hj => by
    have : j = 0 ∨ j = 1 := by omega
    rcases this with rfl | rfl <;> rfl⟩

end Go.Proofs.YtokaechbmnbbiabGreat
