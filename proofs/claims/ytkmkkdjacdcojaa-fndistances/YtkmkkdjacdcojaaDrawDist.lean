/-
  The document's draws for chapter 2: a place, a map and a start, a map and a path. What is drawn is told by existence alone.
-/
import Derived.Test.YtkmkkdjacdcojaaDrawAny
import Derived.Test.YtkmkkdjacdcojaaGrow
import Derived.Test.YtkmkkdjacdcojaaOk
set_option linter.unusedVariables false
set_option linter.unusedSimpArgs false
namespace Go.Proofs.Ytkmkkdjacdcojaa
open Go.RowKit Go.Maps
attribute [local go_sem ↓] Go.wp_at_zero Go.wp_at_succ

set_option maxHeartbeats 1000000 in
theorem l1DrawPlace_any (base c : Nat) (ao : Option Addr) (n cap : Nat) (w : World) (hC : CurAt w base c ao n cap) :
    Calls Try.prog 44 #[.pointer (some ⟨c, 0, none⟩)] w fun e w' => ∃ x : Int, e = .returned (.int .i64 x) ∧ CurAt w' base c ao n cap ∧ w.grownBy w' (some c) := by
  have hcl := hC.lt
  go_enter Try.func44, Try.ntmps44
  go_wp2_with fail
  refine (l1Once_any base c ao n cap 20 (by omega) (by omega) _ hC).mono ?_
  rintro e w1 ⟨bx, rfl, hC1, hg1⟩
  have hs1 := hg1.size
  cases bx
  · go_wp2_with (go_at_call 43; refine (l1Below_any base c ao n cap 8 (by omega) (by omega) _ hC1).mono ?_; rintro e w2 ⟨x, rfl, hx, hC2, hg2⟩)
    go_ret
    exact ⟨_, rfl, hC2, hg1.trans hg2⟩
  · have hal := (Below.refl w1.heap.size w1).alloc (Nat.le_refl _) (.cells #[.int .i64 (-1), .int .i64 23, .int .i64 24, .int .i64 4611686018427387904, .int .i64 (-9223372036854775808)] 2)
    go_wp2_with fail
    refine (l1Below_any base c ao n cap 5 (by omega) (by omega) _ (hC1.next hal)).mono ?_
    rintro e w2 ⟨y, rfl, hy, hC2, hg2⟩
    obtain ⟨v, hv⟩ := lit5 ((hg2.block w1.heap.size (by simp) (by simp <;> omega)).trans (Go.Deep.blk_alloc_new _ _)) (show y < 5 by omega)
    have hy' : (y : Int) < 5 := by omega
    go_wp2
    go_ret
    exact ⟨_, rfl, hC2, (hg1.trans (World.grownBy_alloc _ _ _)).trans hg2⟩

/-- A map that was drawn: its arcs in new memory. -/
def Drawn (w w' : World) (ao : Option Addr) (n : Nat) : Prop := ∃ F T G : Nat → Int, Row w' ao n F T G ∧ ∀ a, ao = some a → 0 < n → w.heap.size ≤ a.block
theorem drawn_of {w w' : World} {base n cap : Nat} {ao : Option Addr} (h : AOwnE w' base ao n cap) (hb : w.heap.size ≤ base) : Drawn w w' ao n := by
  obtain ⟨F, T, G, hr, hg⟩ := h.row
  refine ⟨F, T, G, hr, fun a e hn => ?_⟩
  obtain ⟨g, e', hg'⟩ := hg hn
  rw [e] at e'
  cases e'
  exact Nat.le_trans hb hg'
theorem below_far {w W : World} {c : Nat} (h : w.grownBy W (some c)) (hc : w.heap.size ≤ c) : Below w.heap.size w W := gr_below h hc (Nat.le_refl _)

/-- What stands while something is drawn beside a map: the cursor, the box of a result, the map's box, its arcs. -/
structure DW (w : World) (base c : Nat) (ao : Option Addr) (n cap : Nat) (rb gb ob : Nat) (p : Int) (go : Option Addr) (k gc : Nat) (W : World) : Prop where
  cur : CurAt W base c ao n cap
  res : VHas W rb 26 2 (grV 0 (.slice none 0 0))
  box : VHas W gb 26 2 (grV p (.slice go k gc))
  own : AOwnE W ob go k gc
  bel : Below w.heap.size w W
theorem DW.step {w : World} {base c : Nat} {ao : Option Addr} {n cap rb gb ob : Nat} {p : Int} {go : Option Addr} {k gc : Nat} {W W' : World} (h : DW w base c ao n cap rb gb ob p go k gc W) (hc : (rb < c ∧ c < ob ∧ c < gb) ∧ w.heap.size ≤ c) (hC : CurAt W' base c ao n cap) (hg : W.grownBy W' (some c)) : DW w base c ao n cap rb gb ob p go k gc W' :=
  ⟨hC, h.res.grown hg (by simp; omega), h.box.grown hg (by simp; omega), h.own.grown hg (by omega), h.bel.trans (gr_below hg hc.2 h.bel.size)⟩
theorem DW.next {w : World} {base c : Nat} {ao : Option Addr} {n cap rb gb ob : Nat} {p : Int} {go : Option Addr} {k gc : Nat} {W W' : World} (h : DW w base c ao n cap rb gb ob p go k gc W) (hb : Below W.heap.size W W') : DW w base c ao n cap rb gb ob p go k gc W' :=
  ⟨h.cur.next hb, h.res.next hb, h.box.next hb, h.own.next hb, below_next h.bel (Nat.le_refl _) hb⟩
theorem DW.out {w : World} {base c : Nat} {ao : Option Addr} {n cap rb gb ob : Nat} {p : Int} {go : Option Addr} {k gc : Nat} {W : World} (h : DW w base c ao n cap rb gb ob p go k gc W) (hc : (rb < c ∧ c < ob ∧ c < gb) ∧ w.heap.size ≤ rb) (v0 v1 : Value) :
    Drawn w ((W.setCell ⟨rb, 0, none⟩ v0).setCell ⟨rb, 1, none⟩ v1) go k ∧ Below w.heap.size w ((W.setCell ⟨rb, 0, none⟩ v0).setCell ⟨rb, 1, none⟩ v1) := by
  have h1 := gr_setCell W rb 0 v0
  have h2 := gr_setCell (W.setCell ⟨rb, 0, none⟩ v0) rb 1 v1
  exact ⟨drawn_of ((h.own.grown h1 (by omega)).grown h2 (by omega)) (by omega), (h.bel.setCell (p := ⟨rb, 0, none⟩) hc.2 v0).setCell (p := ⟨rb, 1, none⟩) hc.2 v1⟩

set_option maxRecDepth 100000 in
set_option maxHeartbeats 4000000 in
theorem drawDistances_any (ao : Option Addr) (n cap : Nat) (hn : n ≤ 4096) (w : World) (hr : ByRow w w.heap.size ao n) :
    Calls Try.prog 15 #[.slice ao n cap] w fun e w' => ∃ (p : Int) (go : Option Addr) (k gc : Nat) (s : Int), e = .returned (.tuple #[.agg #[.int .i64 p, .slice go k gc], .int .i64 s]) ∧ k ≤ 200 ∧ Drawn w w' go k ∧ Below w.heap.size w w' := by
  have hal0 := (Below.refl w.heap.size w).alloc (Nat.le_refl _) (.cells #[.int .i64 0, .slice none 0 0] 26)
  have hr0 : ByRow (w.alloc (.cells #[.int .i64 0, .slice none 0 0] 26)) (w.alloc (.cells #[.int .i64 0, .slice none 0 0] 26)).heap.size ao n := fun k hk => by
    obtain ⟨b, o, v, e, hb, hc⟩ := (hr.below hal0 (Nat.le_refl _)) k hk
    exact ⟨b, o, v, e, by simp; omega, hc⟩
  go_enter Try.func15, Try.ntmps15
  go_wp2_with fail
  refine (l1New_any ao n cap hn _ hr0).mono ?_
  rintro e w1 ⟨c, rfl, hC1, hb1⟩
  have hcg := hC1.ge
  simp only [World.size_alloc] at hcg hC1 hb1
  have hcl1 := hC1.lt
  have hrb1 := (gr_new w 0 (.slice none 0 0)).below hb1 (by omega)
  have hbel1 : Below w.heap.size w w1 := hal0.trans (hb1.mono (by omega))
  go_wp2_with fail
  refine (l1DrawAny_any _ c ao n cap _ hC1).mono ?_
  rintro e w3 ⟨p, go, k, gc, rfl, hk, hO3, hC3, hg3⟩
  have hs3 := hg3.size
  have hD4 : DW w (w.heap.size + 1) c ao n cap w.heap.size w3.heap.size w1.heap.size p go k gc (w3.alloc (.cells #[.int .i64 p, .slice go k gc] 26)) :=
    DW.next (W := w3.alloc (.cells #[.int .i64 p, .slice go k gc] 26)) ⟨hC3.next ((Below.refl _ _).alloc (Nat.le_refl _) _), (hrb1.grown hg3 (by simp; omega)).alloc _, gr_new w3 _ _, hO3.next ((Below.refl _ _).alloc (Nat.le_refl _) _), (hbel1.trans (gr_below hg3 (by omega) hbel1.size)).alloc (Nat.le_trans hbel1.size hs3) _⟩ (Below.refl _ _)
  have hcc : (w.heap.size < c ∧ c < w1.heap.size ∧ c < w3.heap.size) ∧ w.heap.size ≤ c := by omega
  have hcc2 : (w.heap.size < c ∧ c < w1.heap.size ∧ c < w3.heap.size) ∧ w.heap.size ≤ w.heap.size := by omega
  clear hC3 hg3 hO3 hbel1 hrb1 hal0 hr0 hC1 hb1
  have b0 : (w3.alloc (.cells #[.int .i64 p, .slice go k gc] 26)).cell? ⟨w3.heap.size, 0, none⟩ = some (.int .i64 p) := hD4.box.cell (j := 0) (by omega)
  rcases Bool.eq_false_or_eq_true (inB p 1 24) with h | h
  rotate_left
  · have hq : ∀ W, Calls Try.prog 40 #[.int .i64 p, .int .i64 1, .int .i64 24] W fun e w' => e = .returned (.bool false) ∧ w' = W := fun W => (l1In_any p 1 24 W).mono (fun e w' h' => ⟨by rw [h'.1, h], h'.2⟩)
    go_wp2_with (go_at_call 40; refine (hq _).mono ?_; rintro e wq ⟨rfl, rfl⟩)
    clear b0 hq
    have b0 : (w3.alloc (.cells #[.int .i64 p, .slice go k gc] 26)).cell? ⟨w3.heap.size, 0, none⟩ = some (.int .i64 p) := hD4.box.cell (j := 0) (by omega)
    have b1 : (w3.alloc (.cells #[.int .i64 p, .slice go k gc] 26)).cell? ⟨w3.heap.size, 1, none⟩ = some (.slice go k gc) := hD4.box.cell (j := 1) (by omega)
    have hDd := hD4.next (Below.refl _ (w3.alloc (.cells #[.int .i64 p, .slice go k gc] 26))).drew
    clear hD4
    go_wp2
    go_region_law (go_simp; go_at_call 44; refine (l1DrawPlace_any _ c ao n cap _ hDd.cur).mono ?_; rintro e w6 ⟨x, rfl, hC6, hg6⟩; have hDs := hDd.step hcc hC6 hg6; have b60 : w6.cell? ⟨w3.heap.size, 0, none⟩ = some (.int .i64 p) := hDs.box.cell (j := 0) (by omega); have b61 : w6.cell? ⟨w3.heap.size, 1, none⟩ = some (.slice go k gc) := hDs.box.cell (j := 1) (by omega); have r0 : w6.cell? ⟨w.heap.size, 0, none⟩ = some (.int .i64 0) := hDs.res.cell (j := 0) (by omega); have r1 : w6.cell? ⟨w.heap.size, 1, none⟩ = some (.slice none 0 0) := hDs.res.cell (j := 1) (by omega); have y0 := hDs.res.frozen 0; have y1 := hDs.res.frozen 1)
    all_goals
      obtain ⟨q0, q1, q2⟩ := res_cells hDs.res p (.slice go k gc)
      obtain ⟨o1, o2⟩ := hDs.out hcc2 (.int .i64 p) (.slice go k gc)
      go_wp2
      exact bodyPost_ret (v := .tuple #[.agg #[.int .i64 p, .slice go k gc], .int .i64 x]) (by simp [results, Try.results15, go_sem, q0, q1, q2]) rfl ⟨p, go, k, gc, _, rfl, hk, o1, o2⟩
  have hp24 : 1 ≤ p ∧ p ≤ 24 := by simpa [inB] using h
  have hq : ∀ W, Calls Try.prog 40 #[.int .i64 p, .int .i64 1, .int .i64 24] W fun e w' => e = .returned (.bool true) ∧ w' = W := fun W => (l1In_any p 1 24 W).mono (fun e w' h' => ⟨by rw [h'.1, h], h'.2⟩)
  go_wp2_with (go_at_call 40; refine (hq _).mono ?_; rintro e wq ⟨rfl, rfl⟩)
  refine (l1Once_any _ c ao n cap 6 (by omega) (by omega) _ hD4.cur).mono ?_
  rintro e w5 ⟨bx, rfl, hC5, hg5⟩
  have hD5 := hD4.step hcc hC5 hg5
  clear b0 hq hD4 hC5 hg5
  cases bx
  · skip
    have b0 : w5.cell? ⟨w3.heap.size, 0, none⟩ = some (.int .i64 p) := hD5.box.cell (j := 0) (by omega)
    have b1 : w5.cell? ⟨w3.heap.size, 1, none⟩ = some (.slice go k gc) := hD5.box.cell (j := 1) (by omega)
    have hDd := hD5.next (Below.refl _ w5).drew
    clear hD5
    go_wp2
    go_region_law (go_simp; go_at_call 43; refine (l1Below_any _ c ao n cap p (by omega) (by omega) _ hDd.cur).mono ?_; rintro e w6 ⟨x, rfl, hx, hC6, hg6⟩; have hDs := hDd.step hcc hC6 hg6; have b60 : w6.cell? ⟨w3.heap.size, 0, none⟩ = some (.int .i64 p) := hDs.box.cell (j := 0) (by omega); have b61 : w6.cell? ⟨w3.heap.size, 1, none⟩ = some (.slice go k gc) := hDs.box.cell (j := 1) (by omega); have r0 : w6.cell? ⟨w.heap.size, 0, none⟩ = some (.int .i64 0) := hDs.res.cell (j := 0) (by omega); have r1 : w6.cell? ⟨w.heap.size, 1, none⟩ = some (.slice none 0 0) := hDs.res.cell (j := 1) (by omega); have y0 := hDs.res.frozen 0; have y1 := hDs.res.frozen 1)
    all_goals
      obtain ⟨q0, q1, q2⟩ := res_cells hDs.res p (.slice go k gc)
      obtain ⟨o1, o2⟩ := hDs.out hcc2 (.int .i64 p) (.slice go k gc)
      go_wp2
      exact bodyPost_ret (v := .tuple #[.agg #[.int .i64 p, .slice go k gc], .int .i64 x]) (by simp [results, Try.results15, go_sem, q0, q1, q2]) rfl ⟨p, go, k, gc, _, rfl, hk, o1, o2⟩
  · skip
    have b0 : w5.cell? ⟨w3.heap.size, 0, none⟩ = some (.int .i64 p) := hD5.box.cell (j := 0) (by omega)
    have b1 : w5.cell? ⟨w3.heap.size, 1, none⟩ = some (.slice go k gc) := hD5.box.cell (j := 1) (by omega)
    have hDd := hD5.next (Below.refl _ w5).drew
    clear hD5
    go_wp2
    go_region_law (go_simp; go_at_call 44; refine (l1DrawPlace_any _ c ao n cap _ hDd.cur).mono ?_; rintro e w6 ⟨x, rfl, hC6, hg6⟩; have hDs := hDd.step hcc hC6 hg6; have b60 : w6.cell? ⟨w3.heap.size, 0, none⟩ = some (.int .i64 p) := hDs.box.cell (j := 0) (by omega); have b61 : w6.cell? ⟨w3.heap.size, 1, none⟩ = some (.slice go k gc) := hDs.box.cell (j := 1) (by omega); have r0 : w6.cell? ⟨w.heap.size, 0, none⟩ = some (.int .i64 0) := hDs.res.cell (j := 0) (by omega); have r1 : w6.cell? ⟨w.heap.size, 1, none⟩ = some (.slice none 0 0) := hDs.res.cell (j := 1) (by omega); have y0 := hDs.res.frozen 0; have y1 := hDs.res.frozen 1)
    all_goals
      obtain ⟨q0, q1, q2⟩ := res_cells hDs.res p (.slice go k gc)
      obtain ⟨o1, o2⟩ := hDs.out hcc2 (.int .i64 p) (.slice go k gc)
      go_wp2
      exact bodyPost_ret (v := .tuple #[.agg #[.int .i64 p, .slice go k gc], .int .i64 x]) (by simp [results, Try.results15, go_sem, q0, q1, q2]) rfl ⟨p, go, k, gc, _, rfl, hk, o1, o2⟩

end Go.Proofs.Ytkmkkdjacdcojaa
