/-
  The document's draw of a map and two places.
-/
import Derived.Test.YthcgibpiogmmdaaDrawRw
set_option linter.unusedVariables false
set_option linter.unusedSimpArgs false
namespace Go.Proofs.Ythcgibpiogmmdaa
open Go.RowKit Go.Maps Go.Deep Go.Joins
attribute [local go_sem ↓] Go.wp_at_zero Go.wp_at_succ

theorem DW.setA {w : World} {base c : Nat} {ao : Option Addr} {n cap rb gb ob : Nat} {p : Int} {go : Option Addr} {k gc : Nat} {W : World} (h : DW w base c ao n cap rb gb ob p go k gc W) {ab : Nat} (hab : base ≤ ab ∧ w.heap.size ≤ ab ∧ c ≠ ab ∧ rb ≠ ab ∧ gb ≠ ab) (hne : ∀ x, (Value.slice go k gc).ownBlock = some x → x ≠ ab) (i : Nat) (v : Int) : DW w base c ao n cap rb gb ob p go k gc (W.setCell ⟨ab, i, none⟩ (.int .i64 v)) := by
  have h1 := gr_setCell W ab i (.int .i64 v)
  refine ⟨h.cur.grown h1 (by omega) (by omega), h.res.grown h1 (by simp; omega), h.box.grown h1 (by simp; omega), ?_, h.bel.setCell (p := ⟨ab, i, none⟩) hab.2.1 _⟩
  obtain ⟨f', hw9, hl, h0 | ⟨g, cap', cur, hv, hb, hh, rest⟩⟩ := h.own
  · exact ⟨f', hw9, hl, .inl h0⟩
  · exact ⟨f', hw9, hl, .inr ⟨g, cap', cur, hv, hb, (h1.block g (Array.getElem?_eq_some_iff.1 hh).1 (by simp; exact hne g (by rw [hv]; rfl))).trans hh, rest⟩⟩

structure KontW (P : Prop) : Prop where
  out : P
theorem have_kontW {P G : Prop} (h : KontW P → G) (k : P) : G := h ⟨k⟩
theorem use_kontW {R Q : World → Nat → Nat → Prop} (HK : KontW (∀ X b y, R X b y → Q X b y)) (X : World) (b y : Nat) (h : R X b y) : Q X b y := HK.out X b y h

set_option maxRecDepth 100000 in
set_option maxHeartbeats 4000000 in
theorem drawWeightOf_any (ao : Option Addr) (n cap : Nat) (hn : n ≤ 4096) (w : World) (hr : ByRow w w.heap.size ao n) :
    Calls Try.prog 12 #[.slice ao n cap] w fun e w' => ∃ (p : Int) (go : Option Addr) (k gc : Nat) (a b : Int), e = .returned (.tuple #[.agg #[.int .i64 p, .slice go k gc], .int .i64 a, .int .i64 b]) ∧ k ≤ 200 ∧ (Lit.int .i64 a).wf = true ∧ (Lit.int .i64 b).wf = true ∧ AOwnE w' (w.heap.size + 1) go k gc ∧ Below w.heap.size w w' := by
  have hal0 := (Below.refl w.heap.size w).alloc (Nat.le_refl _) (.cells #[.int .i64 0, .slice none 0 0] 26)
  have hr0 : ByRow (w.alloc (.cells #[.int .i64 0, .slice none 0 0] 26)) (w.alloc (.cells #[.int .i64 0, .slice none 0 0] 26)).heap.size ao n := fun k hk => by
    obtain ⟨b, o, v, e, hb, hc⟩ := (hr.below hal0 (Nat.le_refl _)) k hk
    exact ⟨b, o, v, e, by simp; omega, hc⟩
  go_enter Try.func12, Try.ntmps12
  go_wp2_with fail
  refine (l1New_any ao n cap hn _ hr0).mono ?_
  rintro e w1 ⟨c, rfl, hC1, hb1⟩
  have hcg := hC1.ge
  simp only [World.size_alloc] at hcg hC1 hb1
  have hcl1 := hC1.lt
  have hrb1 := (gr_new w 0 (.slice none 0 0)).below hb1 (by omega)
  have hbel1 : Below w.heap.size w w1 := hal0.trans (hb1.mono (by omega))
  go_wp2_with fail
  refine (l1DrawAny_any _ c ao n cap _ hC1).mono ?_
  rintro e w3 ⟨p, go, k, gc, rfl, hk, hO3, hC3, hg3⟩
  have hs3 := hg3.size
  have hD4 : DW w (w.heap.size + 1) c ao n cap w.heap.size w3.heap.size w1.heap.size p go k gc (w3.alloc (.cells #[.int .i64 p, .slice go k gc] 26)) :=
    DW.next (W := w3.alloc (.cells #[.int .i64 p, .slice go k gc] 26)) ⟨hC3.next ((Below.refl _ _).alloc (Nat.le_refl _) _), (hrb1.grown hg3 (by simp; omega)).alloc _, gr_new w3 _ _, hO3.next ((Below.refl _ _).alloc (Nat.le_refl _) _), (hbel1.trans (gr_below hg3 (by omega) hbel1.size)).alloc (Nat.le_trans hbel1.size hs3) _⟩ (Below.refl _ _)
  have hcc : (w.heap.size < c ∧ c < w1.heap.size ∧ c < w3.heap.size) ∧ w.heap.size ≤ c := by omega
  have hcc2 : (w.heap.size < c ∧ c < w1.heap.size ∧ c < w3.heap.size) ∧ w.heap.size ≤ w.heap.size := by omega
  clear hC3 hg3 hO3 hbel1 hrb1 hal0 hr0 hC1 hb1
  have b0 : (w3.alloc (.cells #[.int .i64 p, .slice go k gc] 26)).cell? ⟨w3.heap.size, 0, none⟩ = some (.int .i64 p) := hD4.box.cell (j := 0) (by omega)
  have b1 : (w3.alloc (.cells #[.int .i64 p, .slice go k gc] 26)).cell? ⟨w3.heap.size, 1, none⟩ = some (.slice go k gc) := hD4.box.cell (j := 1) (by omega)
  by_cases hk0 : 0 < k
  rotate_left
  · have hk0' : ¬ 0 < (k : Int) := by omega
    go_wp2_with fail
    refine (l1DrawPlace_wf _ c ao n cap _ hD4.cur).mono ?_
    rintro e w6 ⟨x, rfl, hxw, hC6, hg6⟩
    have hD6 := hD4.step hcc hC6 hg6
    clear hC6 hg6 hD4
    have c0 : w6.cell? ⟨w3.heap.size, 0, none⟩ = some (.int .i64 p) := hD6.box.cell (j := 0) (by omega)
    have c1 : w6.cell? ⟨w3.heap.size, 1, none⟩ = some (.slice go k gc) := hD6.box.cell (j := 1) (by omega)
    have hDd := hD6.next (Below.refl _ w6).drew
    clear hD6
    go_wp2_with fail
    go_region_law (go_simp; go_at_call 54; refine (l1DrawPlace_wf _ c ao n cap _ hDd.cur).mono ?_; rintro e w7 ⟨y, rfl, hyw, hC7, hg7⟩; have hDs := hDd.step hcc hC7 hg7; have b60 : w7.cell? ⟨w3.heap.size, 0, none⟩ = some (.int .i64 p) := hDs.box.cell (j := 0) (by omega); have b61 : w7.cell? ⟨w3.heap.size, 1, none⟩ = some (.slice go k gc) := hDs.box.cell (j := 1) (by omega); have r0 : w7.cell? ⟨w.heap.size, 0, none⟩ = some (.int .i64 0) := hDs.res.cell (j := 0) (by omega); have r1 : w7.cell? ⟨w.heap.size, 1, none⟩ = some (.slice none 0 0) := hDs.res.cell (j := 1) (by omega); have y0 := hDs.res.frozen 0; have y1 := hDs.res.frozen 1)
    all_goals
      obtain ⟨q0, q1, q2⟩ := res_cells hDs.res p (.slice go k gc)
      obtain ⟨o1, o2⟩ := hDs.outA hcc2 (.int .i64 p) (.slice go k gc)
      go_wp2
      exact bodyPost_ret (v := .tuple #[.agg #[.int .i64 p, .slice go k gc], .int .i64 x, .int .i64 y]) (by simp [results, Try.results12, go_sem, q0, q1, q2]) rfl ⟨p, go, k, gc, x, y, rfl, hk, hxw, hyw, o1.from (by omega), o2⟩
  have hk0' : 0 < (k : Int) := by omega
  go_wp2_with fail
  refine (l1Once_any _ c ao n cap 2 (by omega) (by omega) _ hD4.cur).mono ?_
  rintro e w5 ⟨bx, rfl, hC5, hg5⟩
  have hD5 := hD4.step hcc hC5 hg5
  clear hC5 hg5 hD4 b0 b1
  cases bx
  · skip
    go_wp2_with fail
    refine (l1DrawPlace_wf _ c ao n cap _ hD5.cur).mono ?_
    rintro e w6 ⟨x, rfl, hxw, hC6, hg6⟩
    have hD6 := hD5.step hcc hC6 hg6
    clear hC6 hg6 hD5
    have c0 : w6.cell? ⟨w3.heap.size, 0, none⟩ = some (.int .i64 p) := hD6.box.cell (j := 0) (by omega)
    have c1 : w6.cell? ⟨w3.heap.size, 1, none⟩ = some (.slice go k gc) := hD6.box.cell (j := 1) (by omega)
    have hDd := hD6.next (Below.refl _ w6).drew
    clear hD6
    go_wp2_with fail
    go_region_law (go_simp; go_at_call 54; refine (l1DrawPlace_wf _ c ao n cap _ hDd.cur).mono ?_; rintro e w7 ⟨y, rfl, hyw, hC7, hg7⟩; have hDs := hDd.step hcc hC7 hg7; have b60 : w7.cell? ⟨w3.heap.size, 0, none⟩ = some (.int .i64 p) := hDs.box.cell (j := 0) (by omega); have b61 : w7.cell? ⟨w3.heap.size, 1, none⟩ = some (.slice go k gc) := hDs.box.cell (j := 1) (by omega); have r0 : w7.cell? ⟨w.heap.size, 0, none⟩ = some (.int .i64 0) := hDs.res.cell (j := 0) (by omega); have r1 : w7.cell? ⟨w.heap.size, 1, none⟩ = some (.slice none 0 0) := hDs.res.cell (j := 1) (by omega); have y0 := hDs.res.frozen 0; have y1 := hDs.res.frozen 1)
    all_goals
      obtain ⟨q0, q1, q2⟩ := res_cells hDs.res p (.slice go k gc)
      obtain ⟨o1, o2⟩ := hDs.outA hcc2 (.int .i64 p) (.slice go k gc)
      go_wp2
      exact bodyPost_ret (v := .tuple #[.agg #[.int .i64 p, .slice go k gc], .int .i64 x, .int .i64 y]) (by simp [results, Try.results12, go_sem, q0, q1, q2]) rfl ⟨p, go, k, gc, x, y, rfl, hk, hxw, hyw, o1.from (by omega), o2⟩
  obtain ⟨F, T, G, hrow, hwf, hap⟩ := hD5.own.apart (c := c) (by omega)
  obtain ⟨bb, oo, ego, _⟩ := hrow 0 hk0
  have hbc := hap _ ego hk0
  simp only at hbc
  have HOWN5 : ∀ x, (Value.slice go k gc).ownBlock = some x → x ≠ w5.heap.size := fun x e => by have := (hD5.own.at (x := x) e).2; omega
  have b1 : w5.cell? ⟨w3.heap.size, 1, none⟩ = some (.slice (some ⟨bb, oo, none⟩) k gc) := by rw [← ego]; exact hD5.box.cell (j := 1) (by omega)
  have hz5 := hD5.box.lt
  have hz5b := hD5.bel.size
  have hcw5 := hD5.cur.lt
  have HCALL : Hid (∀ X, DW w (w.heap.size + 1) c ao n cap w.heap.size w3.heap.size w1.heap.size p go k gc X → w5.grownBy X (some c) → Calls Try.prog 53 #[.pointer (some ⟨c, 0, none⟩), .int .i64 (k : Int)] X fun e w6 => ∃ y : Nat, e = .returned (.int .i64 (y : Int)) ∧ y < k ∧ DW w (w.heap.size + 1) c ao n cap w.heap.size w3.heap.size w1.heap.size p go k gc w6 ∧ w6.cell? ⟨w3.heap.size, 1, none⟩ = some (.slice (some ⟨bb, oo, none⟩) k gc) ∧ (w6.cell? ⟨bb, oo + y * 3, none⟩ = some (.int .i64 (F y)) ∧ w6.cell? ⟨bb, oo + y * 3 + 1, none⟩ = some (.int .i64 (T y)) ∧ w6.cell? ⟨bb, oo + y * 3 + 2, none⟩ = some (.int .i64 (G y))) ∧ X.grownBy w6 (some c)) := fun X hX hgX => by
    refine (l1Below_any _ c ao n cap (k : Int) (by omega) (by omega) _ hX.cur).mono ?_
    rintro e w6 ⟨y, rfl, hy, hC6, hg6⟩
    have hW6 := hX.step hcc hC6 hg6
    have hr6 := hrow.otherB (hgX.trans hg6) (fun a e h0 q => by have := hap a e h0; simp at q; omega)
    obtain ⟨b9, o9, e9, d0, d1, d2⟩ := hr6 y (by omega)
    obtain ⟨rfl, rfl⟩ : bb = b9 ∧ oo = o9 := by rw [ego] at e9; simpa using e9
    exact ⟨y, rfl, by omega, hW6, by rw [← ego]; exact hW6.box.cell (j := 1) (by omega), ⟨d0, d1, d2⟩, hg6⟩
  have hWd := hD5.next (Below.refl w5.heap.size w5).drew
  have hWz := (hD5.next ((Below.refl w5.heap.size w5).alloc (Nat.le_refl _) (.cells #[.int .i64 0, .int .i64 0, .int .i64 0] 36))).next (Below.refl _ _).drew
  have b1z : (w5.alloc (.cells #[.int .i64 0, .int .i64 0, .int .i64 0] 36)).cell? ⟨w3.heap.size, 1, none⟩ = some (.slice (some ⟨bb, oo, none⟩) k gc) := keep_cell ((Below.refl w5.heap.size w5).alloc (Nat.le_refl _) _) (Nat.le_refl _) b1
  have hgd : w5.grownBy w5.drew (some c) := ⟨rfl, rfl, rfl, Nat.le_refl _, fun k hk _ => rfl⟩
  have hgz : w5.grownBy (w5.alloc (.cells #[.int .i64 0, .int .i64 0, .int .i64 0] 36)).drew (some c) := (World.grownBy_alloc _ _ _).trans ⟨rfl, rfl, rfl, Nat.le_refl _, fun k hk _ => rfl⟩
  have HEGO : Hid (go = some ⟨bb, oo, none⟩) := ego
  have HWF : Hid (WfTo F T k) := hwf
  clear ego hrow hap hwf hD5
  go_wp2_with fail
  apply have_kontW
  · intro HK
    go_region_law (first
      | (go_simp; go_at_call 53; refine (HCALL.out _ hWz hgz).mono ?_; rintro e w6b ⟨y, rfl, hy, hW6, b6, ⟨d0, d1, d2⟩, hg6⟩; have hyk : (y : Int) < (k : Int) := (by omega); have hbb := lt_of_cell d0; have hl6 := hW6.box.lt; have hz6 := hg6.size; have vb := (a3_new w5 0 0 0).next (Below.refl _ _).drew; replace vb := vb.grown hg6 (by simp; omega); have vb0 : w6b.cell? ⟨w5.heap.size, 0, none⟩ = some (.int .i64 0) := vb.cell (j := 0) (by omega); have vb1 : w6b.cell? ⟨w5.heap.size, 1, none⟩ = some (.int .i64 0) := vb.cell (j := 1) (by omega); have vb2 : w6b.cell? ⟨w5.heap.size, 2, none⟩ = some (.int .i64 0) := vb.cell (j := 2) (by omega); have vz0 := vb.frozen 0; have vz1 := vb.frozen 1; have vz2 := vb.frozen 2)
      | (go_simp; go_at_call 53; refine (HCALL.out _ hWd hgd).mono ?_; rintro e w6a ⟨y, rfl, hy, hW6, b6, ⟨d0, d1, d2⟩, hg6⟩; have hyk : (y : Int) < (k : Int) := (by omega); have hbb := lt_of_cell d0; have hl6 := hW6.box.lt))
    all_goals
      first
      | (have hW := ((hW6.setA (ab := w5.heap.size) (by omega) HOWN5 0 (F y)).setA (ab := w5.heap.size) (by omega) HOWN5 1 (T y)).setA (ab := w5.heap.size) (by omega) HOWN5 2 (G y); have hBb := (((vb.set 0 (.int .i64 (F y))).set 1 (.int .i64 (T y))).set 2 (.int .i64 (G y))).congr (g := a3 (F y) (T y) (G y)) (fun j hj => by have : j = 0 ∨ j = 1 ∨ j = 2 := (by omega); rcases this with rfl | rfl | rfl <;> rfl); generalize (((w6b.setCell ⟨w5.heap.size, 0, none⟩ (.int .i64 (F y))).setCell ⟨w5.heap.size, 1, none⟩ (.int .i64 (T y))).setCell ⟨w5.heap.size, 2, none⟩ (.int .i64 (G y))) = Wz at hW hBb ⊢; have hbx : w5.heap.size ≠ w.heap.size := (by omega); generalize w5.heap.size = bx at hBb hbx ⊢)
      | (have hW := hW6.next ((Below.refl _ _).alloc (Nat.le_refl _) (.cells #[.int .i64 (F y), .int .i64 (T y), .int .i64 (G y)] 36)); have hBb := a3_new w6a (F y) (T y) (G y); generalize (w6a.alloc (.cells #[.int .i64 (F y), .int .i64 (T y), .int .i64 (G y)] 36)) = Wz at hW hBb ⊢; have hbx : w6a.heap.size ≠ w.heap.size := (by omega); generalize w6a.heap.size = bx at hBb hbx ⊢)
      exact use_kontW HK Wz bx y (And.intro hy (And.intro hbx (And.intro hW hBb)))
  rintro Wz bx y ⟨hy, hbx, hW, hBb⟩
  have hwy := HWF.out y hy
  clear HCALL hWz hWd b1 b1z HOWN5 hcw5 hgd hgz hz5 hz5b
  have q0 : Wz.cell? ⟨bx, 0, none⟩ = some (.int .i64 (F y)) := hBb.cell (j := 0) (by omega)
  have q1 : Wz.cell? ⟨bx, 1, none⟩ = some (.int .i64 (T y)) := hBb.cell (j := 1) (by omega)
  have b60 : Wz.cell? ⟨w3.heap.size, 0, none⟩ = some (.int .i64 p) := hW.box.cell (j := 0) (by omega)
  have b61 : Wz.cell? ⟨w3.heap.size, 1, none⟩ = some (.slice go k gc) := hW.box.cell (j := 1) (by omega)
  have r0 : Wz.cell? ⟨w.heap.size, 0, none⟩ = some (.int .i64 0) := hW.res.cell (j := 0) (by omega)
  have r1 : Wz.cell? ⟨w.heap.size, 1, none⟩ = some (.slice none 0 0) := hW.res.cell (j := 1) (by omega)
  have y0 := hW.res.frozen 0
  have y1 := hW.res.frozen 1
  obtain ⟨s0, s1, s2⟩ := res_cells hW.res p (.slice go k gc)
  obtain ⟨o1, o2⟩ := hW.outA hcc2 (.int .i64 p) (.slice go k gc)
  have hbx' : ¬ bx = w.heap.size := hbx
  have hbx2 : ¬ w.heap.size = bx := fun e => hbx e.symm
  have o1d := o1.next (Below.refl _ _).drew
  have o2d := o2.drew
  clear hBb hW hbx
  go_wp2
  go_region_law (fail)
  all_goals
    go_wp2
    exact bodyPost_ret (v := .tuple #[.agg #[.int .i64 p, .slice go k gc], .int .i64 (F y), .int .i64 (T y)]) (by simp [results, Try.results12, go_sem, s0, s1, s2]) rfl ⟨p, go, k, gc, F y, T y, rfl, hk, hwy.1, hwy.2, by first | exact o1.from (by omega) | exact o1d.from (by omega), by first | exact o2 | exact o2d⟩

end Go.Proofs.Ythcgibpiogmmdaa
