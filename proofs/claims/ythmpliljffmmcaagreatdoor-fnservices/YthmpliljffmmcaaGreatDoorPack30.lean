/-
  Helpers: DrawAny, DrawPl, StoB.
-/
import Derived.Test.YthmpliljffmmcaaGreatDoorPack1
import Derived.Test.YthmpliljffmmcaaGreatDoorPack27
import Derived.Test.YthmpliljffmmcaaGreatDoorPack29
import Derived.BigRegion
import Derived.Test.YthmpliljffmmcaaGreatDoorPack20
import Derived.Laws.Tables
set_option linter.unusedVariables false
set_option linter.unusedSimpArgs false
namespace Go.Proofs.YthmpliljffmmcaaGreatDoor
section
open Go.RowKit Go.Maps
attribute [local go_sem ↓] Go.wp_at_zero Go.wp_at_succ
theorem lit5 {W : World} {b : Nat} {a0 a1 a2 a3 a4 : Int} {t : TypeId} (h : W.heap[b]? = some (.cells #[.int .i64 a0, .int .i64 a1, .int .i64 a2, .int .i64 a3, .int .i64 a4] t (0, 0))) {y : Nat} (hy : y < 5) : ∃ v, W.cell? ⟨b, y, none⟩ = some (.int .i64 v) := by
  have : y = 0 ∨ y = 1 ∨ y = 2 ∨ y = 3 ∨ y = 4 := by omega
  rcases this with rfl | rfl | rfl | rfl | rfl <;> exact ⟨_, by simp [World.cell?, h]; rfl⟩
theorem lit4W {W : World} {b : Nat} {a0 a1 a2 a3 : Int} {t : TypeId} (h : W.heap[b]? = some (.cells #[.int .i64 a0, .int .i64 a1, .int .i64 a2, .int .i64 a3] t (0, 0))) (h0 : (Lit.int .i64 a0).wf = true) (h1 : (Lit.int .i64 a1).wf = true) (h2 : (Lit.int .i64 a2).wf = true) (h3 : (Lit.int .i64 a3).wf = true) {y : Nat} (hy : y < 4) : ∃ v, W.cell? ⟨b, y, none⟩ = some (.int .i64 v) ∧ (Lit.int .i64 v).wf = true := by
  have : y = 0 ∨ y = 1 ∨ y = 2 ∨ y = 3 := by omega
  rcases this with rfl | rfl | rfl | rfl
  · exact ⟨a0, by simp [World.cell?, h], h0⟩
  · exact ⟨a1, by simp [World.cell?, h], h1⟩
  · exact ⟨a2, by simp [World.cell?, h], h2⟩
  · exact ⟨a3, by simp [World.cell?, h], h3⟩
theorem AOwnE.cells {w : World} {base n cap : Nat} {ao : Option Addr} (h : AOwnE w base ao n cap) (hn : 0 < n) : ∃ g, ao = some ⟨g, 0, none⟩ ∧ base ≤ g ∧ g < w.heap.size ∧ (∀ j, j < n * 3 → ∃ v, w.cell? ⟨g, j, none⟩ = some (.int .i64 v) ∧ (Lit.int .i64 v).wf = true) ∧ (∀ j, w.frozen? ⟨g, j, none⟩ = false) ∧ ∀ j v, (Lit.int .i64 v).wf = true → AOwnE (w.setCell ⟨g, j, none⟩ (.int .i64 v)) base (some ⟨g, 0, none⟩) n cap := by
  obtain ⟨f, hw9, hl, h0 | ⟨g, cap', cur, hv, hb', hh, h1, h2, h3, h4⟩⟩ := h
  · omega
  · simp at hv
    obtain ⟨rfl, rfl⟩ := hv
    have hc : ∀ j, j < n * 3 → cur[j]? = some (.int .i64 (f j)) := fun j hj => by
      have : (cur.toList.take (n * 3))[j]? = (cellsOf f (n * 3))[j]? := by rw [h4]
      rw [List.getElem?_take_of_lt hj, cellsOf, List.getElem?_map, List.getElem?_range hj] at this
      simpa using this
    refine ⟨g, rfl, hb', (Array.getElem?_eq_some_iff.1 hh).1, fun j hj => ⟨f j, by simp [World.cell?, hh, hc j hj], hw9 j⟩, fun j => by simp [World.frozen?, hh], fun j v hv9 => ?_⟩
    refine ⟨fun i => if i = j then v else f i, fun i => by simp only; split; exact hv9; exact hw9 i, by simp [cellsOf], .inr ⟨g, cap, cur.setIfInBounds j (.int .i64 v), rfl, hb', ?_, h1, h2, by simpa using h3, ?_⟩⟩
    · simp [World.setCell, Array.getElem?_modify, hh]
    · apply List.ext_getElem?
      intro i
      by_cases hi : i < n * 3
      · have hcs : n * 3 ≤ cur.size := by rw [h3]; exact Nat.mul_le_mul_right 3 h1
        rw [List.getElem?_take_of_lt hi, cellsOf, List.getElem?_map, List.getElem?_range hi, Array.getElem?_toList, Array.getElem?_setIfInBounds]
        by_cases e : i = j
        · subst e
          rw [if_pos rfl, if_pos (by omega)]
          simp
        · rw [if_neg (fun h => e h.symm), hc i hi]
          simp [e]
      · rw [List.getElem?_eq_none (by simp; omega), List.getElem?_eq_none (by simp [cellsOf]; omega)]
theorem DS.put {w : World} {base c : Nat} {ao : Option Addr} {n cap rb gb : Nat} {p : Int} {k gc g : Nat} {W : World} (h : DS w base c ao n cap rb gb p (some ⟨g, 0, none⟩) k gc W) (hc : (c < rb ∧ rb < gb) ∧ w.heap.size ≤ rb) (hk : 0 < k) (j : Nat) (v : Int) (hv9 : (Lit.int .i64 v).wf = true) : DS w base c ao n cap rb gb p (some ⟨g, 0, none⟩) k gc (W.setCell ⟨g, j, none⟩ (.int .i64 v)) := by
  obtain ⟨g', e, h1, h2, _, _, h5⟩ := h.own.cells hk
  cases e
  have hng : g ≠ gb := h.ne _ rfl
  have hs := gr_setCell W g j (.int .i64 v)
  have hge := h.cur.ge
  exact ⟨h.cur.grown hs (by omega) (by omega), h.box.grown hs (by simp; omega), h5 j v hv9, h.ne, h.res.grown hs (by simp; omega), gr_far h.gr hs (fun x e => by cases e; exact h1) (by omega)⟩
theorem DS.places {w : World} {base c : Nat} {ao : Option Addr} {n cap rb gb : Nat} {p : Int} {go : Option Addr} {k gc : Nat} {W : World} (h : DS w base c ao n cap rb gb p go k gc W) (hc : (c < rb ∧ rb < gb) ∧ w.heap.size ≤ rb) (p' : Int) : DS w base c ao n cap rb gb p' go k gc (W.setCell ⟨gb, 0, none⟩ (.int .i64 p')) := by
  have hs := gr_setCell W gb 0 (.int .i64 p')
  have hge := h.cur.ge
  refine ⟨h.cur.grown hs (by omega) (by omega), (h.box.set 0 _).congr (fun j hj => ?_), ?_, h.ne, h.res.grown hs (by simp; omega), gr_far h.gr hs (fun x e => by cases e; exact Nat.le_refl _) (by omega)⟩
  · have : j = 0 ∨ j = 1 := by omega
    rcases this with rfl | rfl <;> rfl
  · obtain ⟨f, hw9, hl, h0 | ⟨g, cap', cur, hv, hb, hh, rest⟩⟩ := h.own
    · exact ⟨f, hw9, hl, .inl h0⟩
    · have hv' := hv
      simp at hv'
      have := h.ne _ hv'.1
      exact ⟨f, hw9, hl, .inr ⟨g, cap', cur, hv, hb, (hs.block g (Array.getElem?_eq_some_iff.1 hh).1 (by simp; exact this)).trans hh, rest⟩⟩
theorem DS.reset {w : World} {base c : Nat} {ao : Option Addr} {n cap rb gb : Nat} {p : Int} {go : Option Addr} {k gc : Nat} {W : World} (h : DS w base c ao n cap rb gb p go k gc W) (hc : (c < rb ∧ rb < gb) ∧ w.heap.size ≤ rb) (p' : Int) : DS w base c ao n cap rb gb p' none 0 0 ((W.setCell ⟨gb, 0, none⟩ (.int .i64 p')).setCell ⟨gb, 1, none⟩ (.slice none 0 0)) := by
  have hs := (gr_setCell W gb 0 (.int .i64 p')).trans (gr_setCell _ gb 1 (.slice none 0 0))
  have hge := h.cur.ge
  refine ⟨h.cur.grown hs (by omega) (by omega), ((h.box.set 0 _).set 1 _).congr (fun j hj => ?_), aown_nil _ _, (fun a e => by cases e), h.res.grown hs (by simp; omega), gr_far h.gr hs (fun x e => by cases e; exact Nat.le_refl _) (by omega)⟩
  have : j = 0 ∨ j = 1 := by omega
  rcases this with rfl | rfl <;> rfl
set_option maxRecDepth 100000 in
set_option maxHeartbeats 8000000 in
theorem l1DrawAny_any (base c : Nat) (ao : Option Addr) (n cap : Nat) (w : World) (hC : CurAt w base c ao n cap) :
    Calls Tryz.prog 35 #[.pointer (some ⟨c, 0, none⟩)] w fun e w' => ∃ (p : Int) (go : Option Addr) (k gc : Nat), e = .returned (.agg #[.int .i64 p, .slice go k gc]) ∧ k ≤ 200 ∧ AOwnE w' w.heap.size go k gc ∧ CurAt w' base c ao n cap ∧ w.grownBy w' (some c) := by
  have hcl := hC.lt
  have hC0 := hC.next ((Below.refl _ w).alloc nl (.cells #[.int .i64 0, .slice none 0 0] 26))
  go_enter Tryz.func35, Tryz.ntmps35
  go_wp2_with fail
  refine (l1Draw_any base c ao n cap _ hC0).mono ?_
  rintro e w1 ⟨p, go, k, gc, rfl, hpp, hk, hO1, hC1, hg1⟩
  have hrb1 := (gr_new w 0 (.slice none 0 0)).grown hg1 (by simp; omega)
  have hs1 := hrb1.lt
  have hD1 : DS w base c ao n cap w.heap.size w1.heap.size (p : Int) go k gc (w1.alloc (.cells #[.int .i64 (p : Int), .slice go k gc] 26)) :=
    ⟨hC1.next ((Below.refl _ w1).alloc nl _), gr_new w1 _ _, (by simpa using hO1.next ((Below.refl _ w1).alloc nl _)), (fun a e => by subst e; have := (hO1.at rfl).2; omega), hrb1.alloc _, ((World.grownBy_alloc w _ _).trans hg1).trans (World.grownBy_alloc w1 _ _)⟩
  clear hC1 hg1 hO1 hrb1 hC0
  go_wp2_with fail
  refine (l1Once_any base c ao n cap 12 (by omega) (by omega) _ hD1.cur).mono ?_
  rintro e w2 ⟨bx, rfl, hC2, hg2⟩
  have hD2 := hD1.step ⟨hcl, hs1⟩ hC2 hg2
  clear hD1 hC2 hg2
  obtain ⟨gb, hgb⟩ : ∃ gb, w1.heap.size = gb := ⟨_, rfl⟩
  rw [hgb] at hD2 hs1 ⊢
  clear hgb
  cases bx
  · skip
    have r0 : w2.cell? ⟨w.heap.size, 0, none⟩ = some (.int .i64 0) := hD2.res.cell (j := 0) (by omega)
    have r1 : w2.cell? ⟨w.heap.size, 1, none⟩ = some (.slice none 0 0) := hD2.res.cell (j := 1) (by omega)
    obtain ⟨y0, y1⟩ := hD2.res.z2
    have b0 : w2.cell? ⟨gb, 0, none⟩ = some (.int .i64 (p : Int)) := hD2.box.cell (j := 0) (by omega)
    have b1 : w2.cell? ⟨gb, 1, none⟩ = some (.slice go k gc) := hD2.box.cell (j := 1) (by omega)
    obtain ⟨q0, q1, q2⟩ := res_cells hD2.res (p : Int) (.slice go k gc)
    obtain ⟨o1, o2, o3⟩ := hD2.out ⟨⟨hcl, hs1⟩, Nat.le_refl _⟩ (.int .i64 (p : Int)) (.slice go k gc)
    go_wp2
    simp [bodyPost, results, Tryz.results35, go_sem, q0, q1, q2]
    exact ⟨_, _, _, _, ⟨rfl, rfl, rfl, rfl⟩, by omega, o1, o2, o3⟩
  go_wp2_with fail
  refine (l1Below_any base c ao n cap 5 (by omega) (by omega) _ hD2.cur).mono ?_
  rintro e w3 ⟨x, rfl, hx, hC3, hg3⟩
  have hD3 := hD2.step ⟨hcl, hs1⟩ hC3 hg3
  clear hD2 hC3 hg3
  have hgl3 := hD3.box.lt
  have hx5 : x = 0 ∨ x = 1 ∨ x = 2 ∨ x = 3 ∨ x = 4 := by omega
  rcases hx5 with rfl | rfl | rfl | rfl | rfl
  · have hal := (Below.refl w3.heap.size w3).alloc nl (.cells #[.int .i64 0, .int .i64 24, .int .i64 25, .int .i64 1, .int .i64 (-9223372036854775808)] 2)
    go_wp2_with fail
    refine (l1Below_any base c ao n cap 5 (by omega) (by omega) _ (hD3.next hal).cur).mono ?_
    rintro e w4 ⟨y, rfl, hy, hC4, hg4⟩
    have hD4 := (hD3.next hal).step ⟨hcl, hs1⟩ hC4 hg4
    obtain ⟨v, hv⟩ := lit5 ((hg4.block w3.heap.size (by simp) (by simp; omega)).trans (Go.Deep.blk_alloc_new _ _)) (show y < 5 by omega)
    clear hC4 hg4 hD3 hal
    have hy' : (y : Int) < 5 := by omega
    have c0 : w4.cell? ⟨gb, 0, none⟩ = some (.int .i64 (p : Int)) := hD4.box.cell (j := 0) (by omega)
    have z0 := hD4.box.frozen 0
    have hD5 := hD4.places ⟨⟨hcl, hs1⟩, Nat.le_refl _⟩ v
    clear hD4
    have r0 : (w4.setCell ⟨gb, 0, none⟩ (.int .i64 v)).cell? ⟨w.heap.size, 0, none⟩ = some (.int .i64 0) := hD5.res.cell (j := 0) (by omega)
    have r1 : (w4.setCell ⟨gb, 0, none⟩ (.int .i64 v)).cell? ⟨w.heap.size, 1, none⟩ = some (.slice none 0 0) := hD5.res.cell (j := 1) (by omega)
    obtain ⟨y0, y1⟩ := hD5.res.z2
    have b0 : (w4.setCell ⟨gb, 0, none⟩ (.int .i64 v)).cell? ⟨gb, 0, none⟩ = some (.int .i64 v) := hD5.box.cell (j := 0) (by omega)
    have b1 : (w4.setCell ⟨gb, 0, none⟩ (.int .i64 v)).cell? ⟨gb, 1, none⟩ = some (.slice go k gc) := hD5.box.cell (j := 1) (by omega)
    obtain ⟨q0, q1, q2⟩ := res_cells hD5.res v (.slice go k gc)
    obtain ⟨o1, o2, o3⟩ := hD5.out ⟨⟨hcl, hs1⟩, Nat.le_refl _⟩ (.int .i64 v) (.slice go k gc)
    go_wp2
    simp [bodyPost, results, Tryz.results35, go_sem, q0, q1, q2]
    exact ⟨_, _, _, _, ⟨rfl, rfl, rfl, rfl⟩, by omega, o1, o2, o3⟩
  · have b1 : w3.cell? ⟨gb, 1, none⟩ = some (.slice go k gc) := hD3.box.cell (j := 1) (by omega)
    have hDc := hD3.next (Below.refl _ w3).drew
    clear hD3
    go_wp2
    go_region_law (first | (go_simp; go_at_call 63; refine (l1From_any base c ao n cap _ hDc.cur).mono ?_; rintro e w5 ⟨zz, rfl, hzb, hC5, hg5⟩; replace hDc := hDc.step ⟨hcl, hs1⟩ hC5 hg5; have b5 : w5.cell? ⟨gb, 1, none⟩ = some (.slice go k gc) := hDc.box.cell (j := 1) (by omega); have hl5 := hDc.box.lt; clear hC5 hg5) | (refine step_append_arc ?_ (.tmp 25) (.tmp 31) ?_ (w.heap.size + 1) k gc go ?_ (hDc.own.next ((Below.refl _ _).alloc nl _)) w5.heap.size ?_ _ _ _ (Go.Deep.blk_alloc_new _ _) (by omega) (by have := hDc.box.lt; simp; omega) (by first | exact wfA (by omega) | exact wf_wrap _) (by first | exact wfA (by omega) | exact wf_wrap _) (by first | exact wfA (by omega) | exact wf_wrap _) ?_; rfl; rfl; rfl; rfl; intro g' gc' w6 hown6 hgrow hr6; have hbx6 := (hDc.box.alloc _).grown hgrow (fun e => (hDc.row e.symm).2 rfl); have hb6 : w6.cell? ⟨gb, 1, none⟩ = some (.slice go k gc) := hbx6.cell (j := 1) (by omega); have hz6 := hbx6.frozen 1))
    all_goals
      have R := (hDc.next ((Below.refl _ _).alloc nl _)).appended ⟨⟨hcl, hs1⟩, Nat.le_refl _⟩ hgrow hown6 hr6
      clear hbx6 hb6 hz6 hDc hgrow hown6 hr6
      have r0 : (w6.setCell ⟨gb, 1, none⟩ (.slice (some ⟨g', 0, none⟩) (k + 1) gc')).cell? ⟨w.heap.size, 0, none⟩ = some (.int .i64 0) := R.res.cell (j := 0) (by omega)
      have r1 : (w6.setCell ⟨gb, 1, none⟩ (.slice (some ⟨g', 0, none⟩) (k + 1) gc')).cell? ⟨w.heap.size, 1, none⟩ = some (.slice none 0 0) := R.res.cell (j := 1) (by omega)
      obtain ⟨y0, y1⟩ := R.res.z2
      have b0 : (w6.setCell ⟨gb, 1, none⟩ (.slice (some ⟨g', 0, none⟩) (k + 1) gc')).cell? ⟨gb, 0, none⟩ = some (.int .i64 (p : Int)) := R.box.cell (j := 0) (by omega)
      have b1 : (w6.setCell ⟨gb, 1, none⟩ (.slice (some ⟨g', 0, none⟩) (k + 1) gc')).cell? ⟨gb, 1, none⟩ = some (.slice (some ⟨g', 0, none⟩) (k + 1) gc') := R.box.cell (j := 1) (by omega)
      obtain ⟨q0, q1, q2⟩ := res_cells R.res (p : Int) (.slice (some ⟨g', 0, none⟩) (k + 1) gc')
      obtain ⟨o1, o2, o3⟩ := R.out ⟨⟨hcl, hs1⟩, Nat.le_refl _⟩ (.int .i64 (p : Int)) (.slice (some ⟨g', 0, none⟩) (k + 1) gc')
      go_wp2
      simp [bodyPost, results, Tryz.results35, go_sem, q0, q1, q2]
      exact ⟨_, _, _, _, ⟨rfl, rfl, rfl, rfl⟩, by omega, o1, o2, o3⟩
  · by_cases h0 : 0 < k
    rotate_left
    · have h0' : ¬ 0 < (k : Int) := by omega
      have r0 : w3.cell? ⟨w.heap.size, 0, none⟩ = some (.int .i64 0) := hD3.res.cell (j := 0) (by omega)
      have r1 : w3.cell? ⟨w.heap.size, 1, none⟩ = some (.slice none 0 0) := hD3.res.cell (j := 1) (by omega)
      obtain ⟨y0, y1⟩ := hD3.res.z2
      have b0 : w3.cell? ⟨gb, 0, none⟩ = some (.int .i64 (p : Int)) := hD3.box.cell (j := 0) (by omega)
      have b1 : w3.cell? ⟨gb, 1, none⟩ = some (.slice go k gc) := hD3.box.cell (j := 1) (by omega)
      obtain ⟨q0, q1, q2⟩ := res_cells hD3.res (p : Int) (.slice go k gc)
      obtain ⟨o1, o2, o3⟩ := hD3.out ⟨⟨hcl, hs1⟩, Nat.le_refl _⟩ (.int .i64 (p : Int)) (.slice go k gc)
      go_wp2
      simp [bodyPost, results, Tryz.results35, go_sem, q0, q1, q2]
      exact ⟨_, _, _, _, ⟨rfl, rfl, rfl, rfl⟩, by omega, o1, o2, o3⟩
    have h0' : 0 < (k : Int) := by omega
    obtain ⟨g, rfl, hg0, hg1, _, _, _⟩ := hD3.own.cells h0
    have b1 : w3.cell? ⟨gb, 1, none⟩ = some (.slice (some ⟨g, 0, none⟩) k gc) := hD3.box.cell (j := 1) (by omega)
    have hng : g ≠ gb := hD3.ne _ rfl
    have hDd := hD3.next (Below.refl _ w3).drew
    have hDa := (hD3.next ((Below.refl _ w3).alloc nl (.cells #[.int .i64 0, .int .i64 1000000, .int .i64 1000001, .int .i64 (-1)] 2))).next (Below.refl _ _).drew
    clear hD3
    go_wp2
    go_region_law (first
      | (go_simp; go_at_call 49; refine (l1Below_any base c ao n cap 4 (by omega) (by omega) _ hDa.cur).mono ?_; rintro e w5 ⟨y, rfl, hy, hC5, hg5⟩; have hDs := hDa.step ⟨hcl, hs1⟩ hC5 hg5; obtain ⟨v, hv, hvw⟩ := lit4W ((hg5.block w3.heap.size (by simp) (by simp <;> omega)).trans (Go.Deep.blk_alloc_new w3 (.cells #[.int .i64 0, .int .i64 1000000, .int .i64 1000001, .int .i64 (-1)] 2))) (wfA (by omega)) (wfA (by omega)) (wfA (by omega)) (wfA (by omega)) (show y < 4 by omega); obtain ⟨g5, eg5, _, hgl5, hcs5, hfz5, _⟩ := hDs.own.cells h0; cases eg5; obtain ⟨u2, e2, _⟩ := hcs5 2 (by omega); have f2 := hfz5 2; have b5 : w5.cell? ⟨gb, 1, none⟩ = some (.slice (some ⟨g, 0, none⟩) k gc) := hDs.box.cell (j := 1) (by omega); have hl5 := hDs.box.lt; have hy4 : (y : Int) < 4 := (by omega); clear hC5 hg5 hcs5 hfz5)
      | (go_simp; go_at_call 49; refine (l1Below_any base c ao n cap 4 (by omega) (by omega) _ hDd.cur).mono ?_; rintro e w5 ⟨y, rfl, hy, hC5, hg5⟩; have hDs := hDd.step ⟨hcl, hs1⟩ hC5 hg5; obtain ⟨v, hv, hvw⟩ := lit4W (Go.Deep.blk_alloc_new w5 (.cells #[.int .i64 0, .int .i64 1000000, .int .i64 1000001, .int .i64 (-1)] 2)) (wfA (by omega)) (wfA (by omega)) (wfA (by omega)) (wfA (by omega)) (show y < 4 by omega); obtain ⟨g5, eg5, _, hgl5, hcs5, hfz5, _⟩ := hDs.own.cells h0; cases eg5; obtain ⟨u2, e2, _⟩ := hcs5 2 (by omega); have f2 := hfz5 2; have b5 : w5.cell? ⟨gb, 1, none⟩ = some (.slice (some ⟨g, 0, none⟩) k gc) := hDs.box.cell (j := 1) (by omega); have hl5 := hDs.box.lt; have hy4 : (y : Int) < 4 := (by omega); clear hC5 hg5 hcs5 hfz5))
    all_goals
      have b0 : w5.cell? ⟨gb, 0, none⟩ = some (.int .i64 (p : Int)) := hDs.box.cell (j := 0) (by omega)
      have r0 : w5.cell? ⟨w.heap.size, 0, none⟩ = some (.int .i64 0) := hDs.res.cell (j := 0) (by omega)
      have r1 : w5.cell? ⟨w.heap.size, 1, none⟩ = some (.slice none 0 0) := hDs.res.cell (j := 1) (by omega)
      obtain ⟨y0, y1⟩ := hDs.res.z2
      have hgr1 : g ≠ w.heap.size := by omega
      have hgr2 : w.heap.size ≠ g := by omega
      have hgr3 : w.heap.size ≠ gb := by omega
      have hng2 : gb ≠ g := fun e => hng e.symm
      have hrl : w.heap.size < w5.heap.size := by omega
      clear hDd hDa
      first
      | (have R := hDs.put ⟨⟨hcl, hs1⟩, Nat.le_refl _⟩ h0 2 v hvw
         obtain ⟨q0, q1, q2⟩ := res_cells R.res (p : Int) (.slice (some ⟨g, 0, none⟩) k gc)
         obtain ⟨o1, o2, o3⟩ := R.out ⟨⟨hcl, hs1⟩, Nat.le_refl _⟩ (.int .i64 (p : Int)) (.slice (some ⟨g, 0, none⟩) k gc)
         go_wp2
         simp [bodyPost, results, Tryz.results35, go_sem, q0, q1, q2]
         exact ⟨_, _, _, _, ⟨rfl, rfl, rfl, rfl⟩, by omega, o1, o2, o3⟩)
      | (have R := hDs.put ⟨⟨hcl, hs1⟩, Nat.le_refl _⟩ h0 2 v hvw
         obtain ⟨q0, q1, q2⟩ := res_cells R.res (p : Int) (.slice (some ⟨g, 0, none⟩) k gc)
         obtain ⟨o1, o2, o3⟩ := R.out ⟨⟨hcl, hs1⟩, Nat.le_refl _⟩ (.int .i64 (p : Int)) (.slice (some ⟨g, 0, none⟩) k gc)
         go_wp2
         simp [bodyPost, results, Tryz.results35, go_sem, q0, q1, q2, hrl]
         exact ⟨_, _, _, _, ⟨rfl, rfl, rfl, rfl⟩, by omega, o1.next ((Below.refl _ _).alloc nl _), o2.next ((Below.refl _ _).alloc nl _), o3.trans (World.grownBy_alloc _ _ _)⟩)
  · have c0 : w3.cell? ⟨gb, 0, none⟩ = some (.int .i64 (p : Int)) := hD3.box.cell (j := 0) (by omega)
    have c1 : w3.cell? ⟨gb, 1, none⟩ = some (.slice go k gc) := hD3.box.cell (j := 1) (by omega)
    obtain ⟨z0, z1⟩ := hD3.box.z2
    have hD4 := hD3.reset ⟨⟨hcl, hs1⟩, Nat.le_refl _⟩ 24
    clear hD3
    go_wp2
    clear c0 c1 z0 z1
    go_loopw [4] (fun x wr => ∃ (i gc : Nat) (go : Option Addr), i ≤ 101 ∧ x = .int .i64 i ∧ DS w base c ao n cap w.heap.size gb 24 go i gc wr) (fun x _ => 101 - (intOf x).toNat)
    case atStart => exact ⟨0, 0, none, by omega, rfl, hD4⟩
    case round =>
      clear hD4
      obtain ⟨i, gc, go, hi, rfl, hD⟩ := hrel
      go_wp2_with fail
      refine (l1Below_any base c ao n cap 2 (by omega) (by omega) _ hD.cur).mono ?_
      rintro e w5 ⟨x, rfl, hx2, hC5, hg5⟩
      have hD5 := hD.step ⟨hcl, hs1⟩ hC5 hg5
      clear hD hC5 hg5
      have hl5 := hD5.box.lt
      by_cases hlt : i < 100 + x
      rotate_left
      · have hlt' : ¬ (i : Int) < 100 + (x : Int) := by omega
        have r0 : w5.cell? ⟨w.heap.size, 0, none⟩ = some (.int .i64 0) := hD5.res.cell (j := 0) (by omega)
        have r1 : w5.cell? ⟨w.heap.size, 1, none⟩ = some (.slice none 0 0) := hD5.res.cell (j := 1) (by omega)
        obtain ⟨y0, y1⟩ := hD5.res.z2
        have b0 : w5.cell? ⟨gb, 0, none⟩ = some (.int .i64 24) := hD5.box.cell (j := 0) (by omega)
        have b1 : w5.cell? ⟨gb, 1, none⟩ = some (.slice go i gc) := hD5.box.cell (j := 1) (by omega)
        obtain ⟨q0, q1, q2⟩ := res_cells hD5.res 24 (.slice go i gc)
        obtain ⟨o1, o2, o3⟩ := hD5.out ⟨⟨hcl, hs1⟩, Nat.le_refl _⟩ (.int .i64 24) (.slice go i gc)
        go_wp2
        simp [bodyPost, results, Tryz.results35, go_sem, q0, q1, q2]
        exact ⟨_, _, _, _, ⟨rfl, rfl, rfl, rfl⟩, by omega, o1, o2, o3⟩
      have hlt' : (i : Int) < 100 + (x : Int) := by omega
      have b1 : w5.cell? ⟨gb, 1, none⟩ = some (.slice go i gc) := hD5.box.cell (j := 1) (by omega)
      go_wp2_with (at_builtin; refine wpList_append_arc rfl _ _ rfl (w.heap.size + 1) i gc go rfl (hD5.own.next ((Below.refl _ _).alloc nl _)) w5.heap.size rfl _ _ _ (Go.Deep.blk_alloc_new _ _) (by omega) (by simp; omega) (by first | exact wfA (by omega) | exact wf_wrap _) (by first | exact wfA (by omega) | exact wf_wrap _) (by first | exact wfA (by omega) | exact wf_wrap _) ?_; intro g' gc' w6 hown6 hgrow hr6; have hbx6 := (hD5.box.alloc _).grown hgrow (fun e => (hD5.row e.symm).2 rfl); have hb6 : w6.cell? ⟨gb, 1, none⟩ = some (.slice go i gc) := hbx6.cell (j := 1) (by omega); have hz6 := hbx6.frozen 1)
      all_goals
        have R := (hD5.next ((Below.refl _ _).alloc nl _)).appended ⟨⟨hcl, hs1⟩, Nat.le_refl _⟩ hgrow hown6 hr6
        clear hbx6 hb6 hz6 hD5 hgrow hown6 hr6
        go_wp2
        go_roundw
        case rel => exact ⟨i + 1, gc', _, by omega, by go_num, R⟩
        case measure => simp [intOf]; omega
  · by_cases h1 : 1 < k
    rotate_left
    · have h1' : ¬ 1 < (k : Int) := by omega
      have r0 : w3.cell? ⟨w.heap.size, 0, none⟩ = some (.int .i64 0) := hD3.res.cell (j := 0) (by omega)
      have r1 : w3.cell? ⟨w.heap.size, 1, none⟩ = some (.slice none 0 0) := hD3.res.cell (j := 1) (by omega)
      obtain ⟨y0, y1⟩ := hD3.res.z2
      have b0 : w3.cell? ⟨gb, 0, none⟩ = some (.int .i64 (p : Int)) := hD3.box.cell (j := 0) (by omega)
      have b1 : w3.cell? ⟨gb, 1, none⟩ = some (.slice go k gc) := hD3.box.cell (j := 1) (by omega)
      obtain ⟨q0, q1, q2⟩ := res_cells hD3.res (p : Int) (.slice go k gc)
      obtain ⟨o1, o2, o3⟩ := hD3.out ⟨⟨hcl, hs1⟩, Nat.le_refl _⟩ (.int .i64 (p : Int)) (.slice go k gc)
      go_wp2
      simp [bodyPost, results, Tryz.results35, go_sem, q0, q1, q2]
      exact ⟨_, _, _, _, ⟨rfl, rfl, rfl, rfl⟩, by omega, o1, o2, o3⟩
    have h1' : 1 < (k : Int) := by omega
    obtain ⟨g, rfl, hg0, hg1, hcs, hfz, _⟩ := hD3.own.cells (by omega)
    obtain ⟨v0, e0, wv0⟩ := hcs 0 (by omega)
    obtain ⟨v1, e1, wv1⟩ := hcs 1 (by omega)
    obtain ⟨v2, e2, wv2⟩ := hcs 2 (by omega)
    have b1 : w3.cell? ⟨gb, 1, none⟩ = some (.slice (some ⟨g, 0, none⟩) k gc) := hD3.box.cell (j := 1) (by omega)
    have hal := (Below.refl w3.heap.size w3).alloc nl (.cells #[.int .i64 v0, .int .i64 v1, .int .i64 v2] 67)
    have hDz := hD3.next hal
    have xa0 : (w3.alloc (.cells #[.int .i64 v0, .int .i64 v1, .int .i64 v2] 67)).cell? ⟨w3.heap.size, 0, none⟩ = some (.int .i64 v0) := by simp [go_sem]
    have xa1 : (w3.alloc (.cells #[.int .i64 v0, .int .i64 v1, .int .i64 v2] 67)).cell? ⟨w3.heap.size, 1, none⟩ = some (.int .i64 v1) := by simp [go_sem]
    have xa2 : (w3.alloc (.cells #[.int .i64 v0, .int .i64 v1, .int .i64 v2] 67)).cell? ⟨w3.heap.size, 2, none⟩ = some (.int .i64 v2) := by simp [go_sem]
    go_wp2
    clear hal hcs hfz b1 hD3 e0 e1 e2
    have hxg : g ≠ w3.heap.size := by omega
    have hxb : gb ≠ w3.heap.size := by omega
    generalize w3.alloc (.cells #[.int .i64 v0, .int .i64 v1, .int .i64 v2] 67) = wz at hDz xa0 xa1 xa2 ⊢
    generalize w3.heap.size = xb at xa0 xa1 xa2 hxg hxb ⊢
    obtain ⟨g', e, _, _, hcs, hfz, _⟩ := hDz.own.cells (by omega)
    cases e
    obtain ⟨u0, e0, wu0⟩ := hcs 0 (by omega)
    obtain ⟨u1, e1, wu1⟩ := hcs 1 (by omega)
    obtain ⟨u2, e2, wu2⟩ := hcs 2 (by omega)
    obtain ⟨u3, e3, wu3⟩ := hcs 3 (by omega)
    obtain ⟨u4, e4, wu4⟩ := hcs 4 (by omega)
    obtain ⟨u5, e5, wu5⟩ := hcs 5 (by omega)
    have f0 := hfz 0
    have f1 := hfz 1
    have f2 := hfz 2
    have b1 : wz.cell? ⟨gb, 1, none⟩ = some (.slice (some ⟨g, 0, none⟩) k gc) := hDz.box.cell (j := 1) (by omega)
    have hng : g ≠ gb := hDz.ne _ rfl
    have hng2 : gb ≠ g := fun e => hng e.symm
    have HD : Hid (DS w base c ao n cap w.heap.size gb (p : Int) (some ⟨g, 0, none⟩) k gc wz) := hDz
    have hk1 : (1 : Int) < (k : Int) := by omega
    have hk2 : (0 : Int) < (k : Int) := by omega
    clear hcs hfz hDz
    go_big_region
    have hDy := (((HD.out.put ⟨⟨hcl, hs1⟩, Nat.le_refl _⟩ (by omega) 0 u3 wu3).put ⟨⟨hcl, hs1⟩, Nat.le_refl _⟩ (by omega) 1 u4 wu4).put ⟨⟨hcl, hs1⟩, Nat.le_refl _⟩ (by omega) 2 u5 wu5).next (Below.refl _ _).drew
    have hgs := ((gr_setCell wz g 0 (.int .i64 u3)).trans (gr_setCell _ g 1 (.int .i64 u4))).trans (gr_setCell _ g 2 (.int .i64 u5))
    have ya0 : (((wz.setCell ⟨g, 0, none⟩ (.int .i64 u3)).setCell ⟨g, 1, none⟩ (.int .i64 u4)).setCell ⟨g, 2, none⟩ (.int .i64 u5)).drew.cell? ⟨xb, 0, none⟩ = some (.int .i64 v0) := hgs.cell xa0 (by simp; omega)
    have ya1 : (((wz.setCell ⟨g, 0, none⟩ (.int .i64 u3)).setCell ⟨g, 1, none⟩ (.int .i64 u4)).setCell ⟨g, 2, none⟩ (.int .i64 u5)).drew.cell? ⟨xb, 1, none⟩ = some (.int .i64 v1) := hgs.cell xa1 (by simp; omega)
    have ya2 : (((wz.setCell ⟨g, 0, none⟩ (.int .i64 u3)).setCell ⟨g, 1, none⟩ (.int .i64 u4)).setCell ⟨g, 2, none⟩ (.int .i64 u5)).drew.cell? ⟨xb, 2, none⟩ = some (.int .i64 v2) := hgs.cell xa2 (by simp; omega)
    clear HD e0 e1 e2 e3 e4 e5 f0 f1 f2 b1 xa0 xa1 xa2 hgs
    generalize (((wz.setCell ⟨g, 0, none⟩ (.int .i64 u3)).setCell ⟨g, 1, none⟩ (.int .i64 u4)).setCell ⟨g, 2, none⟩ (.int .i64 u5)).drew = wy at hDy ya0 ya1 ya2 ⊢
    obtain ⟨g', e, _, _, hcs, hfz, _⟩ := hDy.own.cells (by omega)
    cases e
    obtain ⟨t3, e3, wt3⟩ := hcs 3 (by omega)
    obtain ⟨t4, e4, wt4⟩ := hcs 4 (by omega)
    obtain ⟨t5, e5, wt5⟩ := hcs 5 (by omega)
    have f3 := hfz 3
    have f4 := hfz 4
    have f5 := hfz 5
    have b1 : wy.cell? ⟨gb, 1, none⟩ = some (.slice (some ⟨g, 0, none⟩) k gc) := hDy.box.cell (j := 1) (by omega)
    have hDx := ((hDy.put ⟨⟨hcl, hs1⟩, Nat.le_refl _⟩ (by omega) 3 v0 wv0).put ⟨⟨hcl, hs1⟩, Nat.le_refl _⟩ (by omega) 4 v1 wv1).put ⟨⟨hcl, hs1⟩, Nat.le_refl _⟩ (by omega) 5 v2 wv2
    have b0 : wy.cell? ⟨gb, 0, none⟩ = some (.int .i64 (p : Int)) := hDy.box.cell (j := 0) (by omega)
    have r0 : wy.cell? ⟨w.heap.size, 0, none⟩ = some (.int .i64 0) := hDy.res.cell (j := 0) (by omega)
    have r1 : wy.cell? ⟨w.heap.size, 1, none⟩ = some (.slice none 0 0) := hDy.res.cell (j := 1) (by omega)
    obtain ⟨y0, y1⟩ := hDy.res.z2
    have hgr1 : g ≠ w.heap.size := by omega
    have hgr2 : w.heap.size ≠ g := by omega
    have hgr3 : w.heap.size ≠ gb := by omega
    obtain ⟨q0, q1, q2⟩ := res_cells hDx.res (p : Int) (.slice (some ⟨g, 0, none⟩) k gc)
    obtain ⟨o1, o2, o3⟩ := hDx.out ⟨⟨hcl, hs1⟩, Nat.le_refl _⟩ (.int .i64 (p : Int)) (.slice (some ⟨g, 0, none⟩) k gc)
    clear hcs hfz hDy
    go_wp2
    simp [bodyPost, results, Tryz.results35, go_sem, q0, q1, q2]
    exact ⟨_, _, _, _, ⟨rfl, rfl, rfl, rfl⟩, by omega, o1, o2, o3⟩
theorem lit5W {W : World} {b : Nat} {a0 a1 a2 a3 a4 : Int} {t : TypeId} (h : W.heap[b]? = some (.cells #[.int .i64 a0, .int .i64 a1, .int .i64 a2, .int .i64 a3, .int .i64 a4] t (0, 0))) (h0 : (Lit.int .i64 a0).wf = true) (h1 : (Lit.int .i64 a1).wf = true) (h2 : (Lit.int .i64 a2).wf = true) (h3 : (Lit.int .i64 a3).wf = true) (h4 : (Lit.int .i64 a4).wf = true) {y : Nat} (hy : y < 5) : ∃ v, W.cell? ⟨b, y, none⟩ = some (.int .i64 v) ∧ (Lit.int .i64 v).wf = true := by
  have : y = 0 ∨ y = 1 ∨ y = 2 ∨ y = 3 ∨ y = 4 := by omega
  rcases this with rfl | rfl | rfl | rfl | rfl
  · exact ⟨a0, by simp [World.cell?, h], h0⟩
  · exact ⟨a1, by simp [World.cell?, h], h1⟩
  · exact ⟨a2, by simp [World.cell?, h], h2⟩
  · exact ⟨a3, by simp [World.cell?, h], h3⟩
  · exact ⟨a4, by simp [World.cell?, h], h4⟩
set_option maxHeartbeats 1000000 in
theorem l1DrawPlace_wf (base c : Nat) (ao : Option Addr) (n cap : Nat) (w : World) (hC : CurAt w base c ao n cap) :
    Calls Tryz.prog 36 #[.pointer (some ⟨c, 0, none⟩)] w fun e w' => ∃ x : Int, e = .returned (.int .i64 x) ∧ (Lit.int .i64 x).wf = true ∧ CurAt w' base c ao n cap ∧ w.grownBy w' (some c) := by
  have hcl := hC.lt
  go_enter Tryz.func36, Tryz.ntmps36
  go_wp2_with fail
  refine (l1Once_any base c ao n cap 20 (by omega) (by omega) _ hC).mono ?_
  rintro e w1 ⟨bx, rfl, hC1, hg1⟩
  have hs1 := hg1.size
  cases bx
  · go_wp2_with (go_at_call 49; refine (l1Below_any base c ao n cap 8 (by omega) (by omega) _ hC1).mono ?_; rintro e w2 ⟨x, rfl, hx, hC2, hg2⟩)
    go_ret
    exact ⟨_, rfl, wfA (by omega), hC2, hg1.trans hg2⟩
  · have hal := (Below.refl w1.heap.size w1).alloc nl (.cells #[.int .i64 (-1), .int .i64 23, .int .i64 24, .int .i64 4611686018427387904, .int .i64 (-9223372036854775808)] 2)
    go_wp2_with fail
    refine (l1Below_any base c ao n cap 5 (by omega) (by omega) _ (hC1.next hal)).mono ?_
    rintro e w2 ⟨y, rfl, hy, hC2, hg2⟩
    obtain ⟨v, hv, hvw⟩ := lit5W ((hg2.block w1.heap.size (by simp) (by simp <;> omega)).trans (Go.Deep.blk_alloc_new _ _)) (wfA (by omega)) (wfA (by omega)) (wfA (by omega)) (wfA (by omega)) (wfA (by omega)) (show y < 5 by omega)
    have hy' : (y : Int) < 5 := by omega
    go_wp2
    go_ret
    exact ⟨_, rfl, hvw, hC2, (hg1.trans (World.grownBy_alloc _ _ _)).trans hg2⟩
theorem l1DrawPlace_any (base c : Nat) (ao : Option Addr) (n cap : Nat) (w : World) (hC : CurAt w base c ao n cap) :
    Calls Tryz.prog 36 #[.pointer (some ⟨c, 0, none⟩)] w fun e w' => ∃ x : Int, e = .returned (.int .i64 x) ∧ CurAt w' base c ao n cap ∧ w.grownBy w' (some c) :=
  (l1DrawPlace_wf base c ao n cap w hC).mono (fun e w' ⟨x, h1, _, h2, h3⟩ => ⟨x, h1, h2, h3⟩)
end
section
open Go.RowKit Go.Maps Go.Deep Go.Joins
attribute [local go_sem ↓] Go.wp_at_zero Go.wp_at_succ

end
end Go.Proofs.YthmpliljffmmcaaGreatDoor
