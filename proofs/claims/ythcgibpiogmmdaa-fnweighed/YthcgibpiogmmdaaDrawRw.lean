/-
  The document's draws of a map and a list of arcs, and of a map and two places.
-/
import Derived.Test.YthcgibpiogmmdaaDrawAr
import Derived.Test.YthcgibpiogmmdaaDrawPl
import Derived.Test.YthcgibpiogmmdaaMap
set_option linter.unusedVariables false
set_option linter.unusedSimpArgs false
namespace Go.Proofs.Ythcgibpiogmmdaa
open Go.RowKit Go.Maps Go.Deep Go.Joins
attribute [local go_sem ↓] Go.wp_at_zero Go.wp_at_succ

theorem DW.outA {w : World} {base c : Nat} {ao : Option Addr} {n cap rb gb ob : Nat} {p : Int} {go : Option Addr} {k gc : Nat} {W : World} (h : DW w base c ao n cap rb gb ob p go k gc W) (hc : (rb < c ∧ c < ob ∧ c < gb) ∧ w.heap.size ≤ rb) (v0 v1 : Value) :
    AOwnE ((W.setCell ⟨rb, 0, none⟩ v0).setCell ⟨rb, 1, none⟩ v1) ob go k gc ∧ Below w.heap.size w ((W.setCell ⟨rb, 0, none⟩ v0).setCell ⟨rb, 1, none⟩ v1) := by
  have h1 := gr_setCell W rb 0 v0
  have h2 := gr_setCell (W.setCell ⟨rb, 0, none⟩ v0) rb 1 v1
  exact ⟨(h.own.grown h1 (by omega)).grown h2 (by omega), (h.bel.setCell (p := ⟨rb, 0, none⟩) hc.2 v0).setCell (p := ⟨rb, 1, none⟩) hc.2 v1⟩
theorem AOwnE.wft {w : World} {base n cap : Nat} {ao : Option Addr} (h : AOwnE w base ao n cap) : ∃ F T G : Nat → Int, Row w ao n F T G ∧ WfTo F T n := by
  obtain ⟨F, T, G, h1, h2, _⟩ := h.rowW
  exact ⟨F, T, G, h1, h2⟩
theorem AOwnE.apart {w : World} {base n cap c : Nat} {ao : Option Addr} (h : AOwnE w base ao n cap) (hc : c < base) : ∃ F T G : Nat → Int, Row w ao n F T G ∧ WfTo F T n ∧ ∀ a, ao = some a → 0 < n → a.block ≠ c ∧ a.block < w.heap.size := by
  obtain ⟨F, T, G, h1, h2, h3⟩ := h.rowW
  refine ⟨F, T, G, h1, h2, fun a e hn => ?_⟩
  obtain ⟨g, e', hg⟩ := h3 hn
  rw [e] at e'
  cases e'
  obtain ⟨b, o, eb, c0, _⟩ := h1 0 hn
  rw [e] at eb
  cases eb
  have := lt_of_cell c0
  exact ⟨by show g ≠ c; omega, this⟩

set_option maxRecDepth 100000 in
set_option maxHeartbeats 4000000 in
theorem drawReweigh_any (ao : Option Addr) (n cap : Nat) (hn : n ≤ 4096) (w : World) (hr : ByRow w w.heap.size ao n) :
    Calls Try.prog 8 #[.slice ao n cap] w fun e w' => ∃ (p : Int) (go : Option Addr) (k gc : Nat) (xo : Option Addr) (m xc : Nat), e = .returned (.tuple #[.agg #[.int .i64 p, .slice go k gc], .slice xo m xc]) ∧ k ≤ 200 ∧ m ≤ 4 ∧ AOwnE w' (w.heap.size + 1) go k gc ∧ AOwnE w' (w.heap.size + 1) xo m xc ∧ Below w.heap.size w w' := by
  have hal0 := (Below.refl w.heap.size w).alloc (Nat.le_refl _) (.cells #[.int .i64 0, .slice none 0 0] 26)
  have hr0 : ByRow (w.alloc (.cells #[.int .i64 0, .slice none 0 0] 26)) (w.alloc (.cells #[.int .i64 0, .slice none 0 0] 26)).heap.size ao n := fun k hk => by
    obtain ⟨b, o, v, e, hb, hc⟩ := (hr.below hal0 (Nat.le_refl _)) k hk
    exact ⟨b, o, v, e, by simp; omega, hc⟩
  go_enter Try.func8, Try.ntmps8
  go_wp2_with fail
  refine (l1New_any ao n cap hn _ hr0).mono ?_
  rintro e w1 ⟨c, rfl, hC1, hb1⟩
  have hcg := hC1.ge
  simp only [World.size_alloc] at hcg hC1 hb1
  have hcl1 := hC1.lt
  have hrb1 := (gr_new w 0 (.slice none 0 0)).below hb1 (by omega)
  have hbel1 : Below w.heap.size w w1 := hal0.trans (hb1.mono (by omega))
  go_wp2_with fail
  refine (l1DrawAny_any _ c ao n cap _ hC1).mono ?_
  rintro e w3 ⟨p, go, k, gc, rfl, hk, hO3, hC3, hg3⟩
  have hs3 := hg3.size
  have hD4 : DW w (w.heap.size + 1) c ao n cap w.heap.size w3.heap.size w1.heap.size p go k gc (w3.alloc (.cells #[.int .i64 p, .slice go k gc] 26)) :=
    DW.next (W := w3.alloc (.cells #[.int .i64 p, .slice go k gc] 26)) ⟨hC3.next ((Below.refl _ _).alloc (Nat.le_refl _) _), (hrb1.grown hg3 (by simp; omega)).alloc _, gr_new w3 _ _, hO3.next ((Below.refl _ _).alloc (Nat.le_refl _) _), (hbel1.trans (gr_below hg3 (by omega) hbel1.size)).alloc (Nat.le_trans hbel1.size hs3) _⟩ (Below.refl _ _)
  have hcc : (w.heap.size < c ∧ c < w1.heap.size ∧ c < w3.heap.size) ∧ w.heap.size ≤ c := by omega
  have hcc2 : (w.heap.size < c ∧ c < w1.heap.size ∧ c < w3.heap.size) ∧ w.heap.size ≤ w.heap.size := by omega
  clear hC3 hg3 hO3 hbel1 hrb1 hal0 hr0 hC1 hb1
  have b0 : (w3.alloc (.cells #[.int .i64 p, .slice go k gc] 26)).cell? ⟨w3.heap.size, 0, none⟩ = some (.int .i64 p) := hD4.box.cell (j := 0) (by omega)
  have b1 : (w3.alloc (.cells #[.int .i64 p, .slice go k gc] 26)).cell? ⟨w3.heap.size, 1, none⟩ = some (.slice go k gc) := hD4.box.cell (j := 1) (by omega)
  have hDd := hD4.next (Below.refl _ (w3.alloc (.cells #[.int .i64 p, .slice go k gc] 26))).drew
  obtain ⟨F, T, G, hrow, hwf, hap⟩ := hDd.own.apart (c := c) (by omega)
  have hsd : w.heap.size < (w3.alloc (.cells #[.int .i64 p, .slice go k gc] 26)).drew.heap.size := by show w.heap.size < (w3.alloc _).heap.size; simp; omega
  clear hD4
  go_wp2
  go_region_law (go_simp; go_at_call 44; refine (l1DrawArcs_any _ c ao n cap p go k gc F T G hk hwf _ hDd.cur hrow hap).mono ?_; rintro e w6 ⟨xo, m, xc, rfl, hm, hX, hC6, hg6⟩; have hDs := hDd.step hcc hC6 hg6; have b60 : w6.cell? ⟨w3.heap.size, 0, none⟩ = some (.int .i64 p) := hDs.box.cell (j := 0) (by omega); have b61 : w6.cell? ⟨w3.heap.size, 1, none⟩ = some (.slice go k gc) := hDs.box.cell (j := 1) (by omega); have r0 : w6.cell? ⟨w.heap.size, 0, none⟩ = some (.int .i64 0) := hDs.res.cell (j := 0) (by omega); have r1 : w6.cell? ⟨w.heap.size, 1, none⟩ = some (.slice none 0 0) := hDs.res.cell (j := 1) (by omega); have y0 := hDs.res.frozen 0; have y1 := hDs.res.frozen 1)
  all_goals
    obtain ⟨q0, q1, q2⟩ := res_cells hDs.res p (.slice go k gc)
    obtain ⟨o1, o2⟩ := hDs.outA hcc2 (.int .i64 p) (.slice go k gc)
    have hX2 := (hX.grown (gr_setCell _ w.heap.size 0 (.int .i64 p)) hsd).grown (gr_setCell _ w.heap.size 1 (.slice go k gc)) hsd
    go_wp2
    exact bodyPost_ret (v := .tuple #[.agg #[.int .i64 p, .slice go k gc], .slice xo m xc]) (by simp [results, Try.results8, go_sem, q0, q1, q2]) rfl ⟨p, go, k, gc, xo, m, xc, rfl, hk, hm, o1.from (by omega), hX2.from (by omega), o2⟩

end Go.Proofs.Ythcgibpiogmmdaa
