/-
  The document's draw for Route.
-/
import Derived.Test.YtokaechbmnbbiabGreatDrawRDP
import Derived.Test.YtokaechbmnbbiabGreatPack11
import Derived.Test.YtokaechbmnbbiabGreatPack9
import Derived.Deep.RegionHeld3
set_option linter.unusedVariables false
set_option linter.unusedSimpArgs false
namespace Go.Proofs.YtokaechbmnbbiabGreat
open Go.RowKit Go.Maps Go.Deep Go.Joins
attribute [local go_sem ↓] Go.wp_at_zero Go.wp_at_succ

def DrawnRT (w : World) (e : Ending) (w' : World) : Prop := ∃ (p : Int) (go : Option Addr) (k gc : Nat) (po : Option Addr) (m pc : Nat) (P : Nat → Int) (eo : Option Addr) (q ec : Nat) (L H : Nat → Int) (uo : Option Addr) (u uc : Nat) (U : Nat → Int) (vo : Option Addr) (v vc : Nat) (V : Nat → Int) (x y : Int), e = .returned (.tuple #[.agg #[.int .i64 p, .slice go k gc], .agg #[.slice po m pc, .slice eo q ec], .agg #[.slice uo u uc, .slice vo v vc], .int .i64 x, .int .i64 y]) ∧ (k ≤ 200 ∧ m ≤ 24 ∧ q ≤ 217 ∧ q ≤ ec ∧ u ≤ 1001 ∧ v ≤ 1001) ∧ ((Lit.int .i64 x).wf = true ∧ (Lit.int .i64 y).wf = true) ∧ RD w.heap.size go k gc po m P eo q L H uo u U vo v V w' ∧ Below w.heap.size w w'

set_option maxRecDepth 100000 in
set_option maxHeartbeats 4000000 in
theorem drawRoute_any (ao : Option Addr) (n cap : Nat) (hn : n ≤ 4096) (w : World) (hr : ByRow w w.heap.size ao n) :
    Calls Tryz.prog 22 #[.slice ao n cap] w fun e w' => DrawnRT w e w' := by
  have hal0 := (Below.refl _ w).alloc (Nat.le_refl _) (.cells #[.int .i64 0, .slice none 0 0] 26)
  have hal1 := (Below.refl _ (w.alloc (.cells #[.int .i64 0, .slice none 0 0] 26))).alloc (Nat.le_refl _) (.cells #[.slice none 0 0, .slice none 0 0] 30)
  have hal2 := (Below.refl _ ((w.alloc (.cells #[.int .i64 0, .slice none 0 0] 26)).alloc (.cells #[.slice none 0 0, .slice none 0 0] 30))).alloc (Nat.le_refl _) (.cells #[.slice none 0 0, .slice none 0 0] 34)
  have hB0 := below_next (below_next (hal0) (Nat.le_refl _) hal1) (Nat.le_refl _) hal2
  have rx0 := (((gr_new (w) 0 (.slice none 0 0)).next hal1).next hal2)
  have rx1 := ((hi2_new ((w.alloc (.cells #[.int .i64 0, .slice none 0 0] 26))) (.slice none 0 0) (.slice none 0 0)).next hal2)
  have rx2 := (me2_new (((w.alloc (.cells #[.int .i64 0, .slice none 0 0] 26)).alloc (.cells #[.slice none 0 0, .slice none 0 0] 30))) (.slice none 0 0) (.slice none 0 0))
  have hz0 : (((w.alloc (.cells #[.int .i64 0, .slice none 0 0] 26)).alloc (.cells #[.slice none 0 0, .slice none 0 0] 30)).alloc (.cells #[.slice none 0 0, .slice none 0 0] 34)).heap.size = w.heap.size + 3 := by simp
  go_enter Tryz.func22, Tryz.ntmps22
  go_wp2_with fail
  generalize (((w.alloc (.cells #[.int .i64 0, .slice none 0 0] 26)).alloc (.cells #[.slice none 0 0, .slice none 0 0] 30)).alloc (.cells #[.slice none 0 0, .slice none 0 0] 34)) = W0 at hB0 rx0 rx1 rx2 hz0 ⊢
  simp only [World.size_alloc] at rx0 rx1 rx2
  clear hal0 hal1 hal2
  refine (l1New_any ao n cap hn _ (hr.up hB0)).mono ?_
  rintro e w1 ⟨c, rfl, hC1, hb1⟩
  have hcg := hC1.ge
  have hcl := hC1.lt
  have hs1 := hb1.size
  replace rx0 := rx0.next hb1
  replace rx1 := rx1.next hb1
  replace rx2 := rx2.next hb1
  replace hB0 := below_next hB0 (Nat.le_refl _) hb1
  clear hb1
  go_wp2_with fail
  refine (l5DrawAny_any _ c ao n cap _ hC1).mono ?_
  rintro e w2 ⟨p, go, k, gc, po, m, pc, P, eo, q, ec, L, H, rfl, ⟨hk, hm, hq, hec⟩, hR⟩
  have hs2 := hR.gr.size
  replace rx0 := rx0.grown hR.gr (by simp; omega)
  replace rx1 := rx1.grown hR.gr (by simp; omega)
  replace rx2 := rx2.grown hR.gr (by simp; omega)
  replace hB0 := hB0.trans (gr_below hR.gr (by omega) (by omega))
  have ha1 := (Below.refl w2.heap.size w2).alloc (Nat.le_refl _) (.cells #[.int .i64 p, .slice go k gc] 26)
  have ha2 := (Below.refl _ (w2.alloc (.cells #[.int .i64 p, .slice go k gc] 26))).alloc (Nat.le_refl _) (.cells #[.slice po m pc, .slice eo q ec] 30)
  have haa := below_next ha1 (Nat.le_refl _) ha2
  replace rx0 := rx0.next haa
  replace rx1 := rx1.next haa
  replace rx2 := rx2.next haa
  have gx := (gr_new w2 p (.slice go k gc)).next ha2
  have hx := hi2_new (w2.alloc (.cells #[.int .i64 p, .slice go k gc] 26)) (.slice po m pc) (.slice eo q ec)
  simp only [World.size_alloc] at hx
  have hC2 := hR.cur.next haa
  have hD := hR.rd.next haa
  have hsz : ((w2.alloc (.cells #[.int .i64 p, .slice go k gc] 26)).alloc (.cells #[.slice po m pc, .slice eo q ec] 30)).heap.size = w2.heap.size + 2 := by simp
  have hszB := hB0.size
  replace hB0 := hB0.trans (haa.mono hszB)
  clear ha1 ha2 haa hR
  go_wp2_with fail
  generalize ((w2.alloc (.cells #[.int .i64 p, .slice go k gc] 26)).alloc (.cells #[.slice po m pc, .slice eo q ec] 30)) = W3 at gx hx hC2 hD hsz hB0 rx0 rx1 rx2 ⊢
  obtain ⟨gb, hgb⟩ : ∃ gb, w2.heap.size = gb := ⟨_, rfl⟩
  obtain ⟨hb, hhb⟩ : ∃ hb, gb + 1 = hb := ⟨_, rfl⟩
  simp only [hgb] at gx hx hsz hs2 ⊢
  simp only [hhb] at hx ⊢
  obtain ⟨F, T, G, hrow, hwf, hap⟩ := hD.arcs.apart (c := c) (by omega)
  have g0 : W3.cell? ⟨gb, 0, none⟩ = some (.int .i64 p) := gx.cell (j := 0) (by omega)
  have g1 : W3.cell? ⟨gb, 1, none⟩ = some (.slice go k gc) := gx.cell (j := 1) (by omega)
  have h0 : W3.cell? ⟨hb, 0, none⟩ = some (.slice po m pc) := hx.cell (j := 0) (by omega)
  have h1 : W3.cell? ⟨hb, 1, none⟩ = some (.slice eo q ec) := hx.cell (j := 1) (by omega)
  go_wp2_with fail
  refine (l5DrawMetric_any _ c ao n cap p go k gc F T G po m pc P eo q ec L H hk hm hq _ hC2 hrow hD.ord hD.edg).mono ?_
  rintro e w4 ⟨uo, u, uc, U, vo, v, vc, V, rfl, ⟨hu, hv⟩, hM⟩
  have hs4 := hM.gr.size
  have hC4 := hM.cur
  replace hD := hD.met hM (by omega) (by omega)
  replace rx0 := rx0.grown hM.gr (by simp; omega)
  replace rx1 := rx1.grown hM.gr (by simp; omega)
  replace rx2 := rx2.grown hM.gr (by simp; omega)
  replace gx := gx.grown hM.gr (by simp; omega)
  replace hx := hx.grown hM.gr (by simp; omega)
  replace hB0 := hB0.trans (gr_below hM.gr (by omega) (by omega))
  have ha := (Below.refl w4.heap.size w4).alloc (Nat.le_refl _) (.cells #[.slice uo u uc, .slice vo v vc] 34)
  have mx := me2_new w4 (.slice uo u uc) (.slice vo v vc)
  replace rx0 := rx0.next ha
  replace rx1 := rx1.next ha
  replace rx2 := rx2.next ha
  replace gx := gx.next ha
  replace hx := hx.next ha
  replace hD := hD.next ha
  replace hC4 := hC4.next ha
  have hsz5 : (w4.alloc (.cells #[.slice uo u uc, .slice vo v vc] 34)).heap.size = w4.heap.size + 1 := by simp
  have hszB5 := hB0.size
  replace hB0 := hB0.trans (ha.mono hszB5)
  clear ha g0 g1 h0 h1 hM hrow hwf hap hC2
  go_wp2_with fail
  generalize (w4.alloc (.cells #[.slice uo u uc, .slice vo v vc] 34)) = W5 at mx gx hx hC4 hD hsz5 hB0 rx0 rx1 rx2 ⊢
  obtain ⟨mb, hmb⟩ : ∃ mb, w4.heap.size = mb := ⟨_, rfl⟩
  simp only [hmb] at mx hsz5 hs4 hszB5 ⊢
  refine (l1DrawPlace_wf _ c ao n cap _ hC4).mono ?_
  rintro e w6 ⟨x, rfl, wx, hCa, hga⟩
  have QX : Hid ((Lit.int .i64 x).wf = true) := wx
  clear wx
  have hs6 := hga.size
  have hC6 := hCa
  replace hD := hD.other hga (by omega)
  replace rx0 := rx0.grown hga (by simp; omega)
  replace rx1 := rx1.grown hga (by simp; omega)
  replace rx2 := rx2.grown hga (by simp; omega)
  replace gx := gx.grown hga (by simp; omega)
  replace hx := hx.grown hga (by simp; omega)
  replace mx := mx.grown hga (by simp; omega)
  replace hB0 := hB0.trans (gr_below hga (by omega) (by omega))
  clear hga
  go_wp2_with fail
  refine (l1DrawPlace_wf _ c ao n cap _ hC6).mono ?_
  rintro e w7 ⟨y, rfl, wy, hCa, hga⟩
  have QY : Hid ((Lit.int .i64 y).wf = true) := wy
  clear wy
  have hs7 := hga.size
  have hC7 := hCa
  replace hD := hD.other hga (by omega)
  replace rx0 := rx0.grown hga (by simp; omega)
  replace rx1 := rx1.grown hga (by simp; omega)
  replace rx2 := rx2.grown hga (by simp; omega)
  replace gx := gx.grown hga (by simp; omega)
  replace hx := hx.grown hga (by simp; omega)
  replace mx := mx.grown hga (by simp; omega)
  replace hB0 := hB0.trans (gr_below hga (by omega) (by omega))
  clear hga
  have h0 : w7.cell? ⟨hb, 0, none⟩ = some (.slice po m pc) := hx.cell (j := 0) (by omega)
  have hq0 : Hid (m = 0 ∨ 0 < m) := Nat.eq_zero_or_pos m
  rcases hq0.out with hq1 | hq1
  rotate_left
  · have hq2 : (0 : Int) < (m : Int) := by omega
    go_wp2_with fail
    refine (l1Once_any _ c ao n cap 5 (by omega) (by omega) _ hC7).mono ?_
    rintro e w9 ⟨b9, rfl, hCa, hga⟩
    clear h0
    have hs9 := hga.size
    have hC9 := hCa
    replace hD := hD.other hga (by omega)
    replace rx0 := rx0.grown hga (by simp; omega)
    replace rx1 := rx1.grown hga (by simp; omega)
    replace rx2 := rx2.grown hga (by simp; omega)
    replace gx := gx.grown hga (by simp; omega)
    replace hx := hx.grown hga (by simp; omega)
    replace mx := mx.grown hga (by simp; omega)
    replace hB0 := hB0.trans (gr_below hga (by omega) (by omega))
    clear hga
    cases b9
    · go_wp2_with fail
      refine (l1Below_any _ c ao n cap (m : Int) (by omega) (by omega) _ hC9).mono ?_
      rintro e wa ⟨xa, rfl, hxa, hCa, hga⟩
      have hsa := hga.size
      skip
      replace hD := hD.other hga (by omega)
      replace rx0 := rx0.grown hga (by simp; omega)
      replace rx1 := rx1.grown hga (by simp; omega)
      replace rx2 := rx2.grown hga (by simp; omega)
      replace gx := gx.grown hga (by simp; omega)
      replace hx := hx.grown hga (by simp; omega)
      replace mx := mx.grown hga (by simp; omega)
      replace hB0 := hB0.trans (gr_below hga (by omega) (by omega))
      clear hga
      go_wp2_with fail
      refine (l1Below_any _ c ao n cap (m : Int) (by omega) (by omega) _ hCa).mono ?_
      rintro e wb ⟨xb, rfl, hxb, hCb, hgb2⟩
      have hsb := hgb2.size
      replace hD := hD.other hgb2 (by omega)
      replace rx0 := rx0.grown hgb2 (by simp; omega)
      replace rx1 := rx1.grown hgb2 (by simp; omega)
      replace rx2 := rx2.grown hgb2 (by simp; omega)
      replace gx := gx.grown hgb2 (by simp; omega)
      replace hx := hx.grown hgb2 (by simp; omega)
      replace mx := mx.grown hgb2 (by simp; omega)
      replace hB0 := hB0.trans (gr_below hgb2 (by omega) (by omega))
      clear hgb2 hCa
      have wfa : (Lit.int .i64 (xa : Int)).wf = true := WalkArith.wf_i64 (by omega)
      have wfb : (Lit.int .i64 (xb : Int)).wf = true := WalkArith.wf_i64 (by omega)
      have hszr := rx2.lt
      have a0 : wb.cell? ⟨gb, 0, none⟩ = some (.int .i64 p) := gx.cell (j := 0) (by omega)
      have a1 : wb.cell? ⟨gb, 1, none⟩ = some (.slice go k gc) := gx.cell (j := 1) (by omega)
      have a2 : wb.cell? ⟨hb, 0, none⟩ = some (.slice po m pc) := hx.cell (j := 0) (by omega)
      have a3 : wb.cell? ⟨hb, 1, none⟩ = some (.slice eo q ec) := hx.cell (j := 1) (by omega)
      have a4 : wb.cell? ⟨mb, 0, none⟩ = some (.slice uo u uc) := mx.cell (j := 0) (by omega)
      have a5 : wb.cell? ⟨mb, 1, none⟩ = some (.slice vo v vc) := mx.cell (j := 1) (by omega)
      have r0 : wb.cell? ⟨w.heap.size, 0, none⟩ = some (.int .i64 0) := rx0.cell (j := 0) (by omega)
      have z0 := rx0.frozen 0
      have r1 : wb.cell? ⟨w.heap.size, 1, none⟩ = some (.slice none 0 0) := rx0.cell (j := 1) (by omega)
      have z1 := rx0.frozen 1
      have r2 : wb.cell? ⟨w.heap.size + 1, 0, none⟩ = some (.slice none 0 0) := rx1.cell (j := 0) (by omega)
      have z2 := rx1.frozen 0
      have r3 : wb.cell? ⟨w.heap.size + 1, 1, none⟩ = some (.slice none 0 0) := rx1.cell (j := 1) (by omega)
      have z3 := rx1.frozen 1
      have r4 : wb.cell? ⟨w.heap.size + 1 + 1, 0, none⟩ = some (.slice none 0 0) := rx2.cell (j := 0) (by omega)
      have z4 := rx2.frozen 0
      have r5 : wb.cell? ⟨w.heap.size + 1 + 1, 1, none⟩ = some (.slice none 0 0) := rx2.cell (j := 1) (by omega)
      have z5 := rx2.frozen 1
      have hlr := rx2.lt
      go_wp2
      go_region_law (fail)
      all_goals
        clear r0 z0 r1 z1 r2 z2 r3 z3 r4 z4 r5 z5 hlr a0 a1 a2 a3 a4 a5
        have r0 : wb.cell? ⟨w.heap.size, 0, none⟩ = some (.int .i64 0) := rx0.cell (j := 0) (by omega)
        have z0 := rx0.frozen 0
        have r1 : wb.cell? ⟨w.heap.size, 1, none⟩ = some (.slice none 0 0) := rx0.cell (j := 1) (by omega)
        have z1 := rx0.frozen 1
        have r2 : wb.cell? ⟨w.heap.size + 1, 0, none⟩ = some (.slice none 0 0) := rx1.cell (j := 0) (by omega)
        have z2 := rx1.frozen 0
        have r3 : wb.cell? ⟨w.heap.size + 1, 1, none⟩ = some (.slice none 0 0) := rx1.cell (j := 1) (by omega)
        have z3 := rx1.frozen 1
        have r4 : wb.cell? ⟨w.heap.size + 1 + 1, 0, none⟩ = some (.slice none 0 0) := rx2.cell (j := 0) (by omega)
        have z4 := rx2.frozen 0
        have r5 : wb.cell? ⟨w.heap.size + 1 + 1, 1, none⟩ = some (.slice none 0 0) := rx2.cell (j := 1) (by omega)
        have z5 := rx2.frozen 1
        have hlr := rx2.lt
        go_wp2
        have hO := ((((((((((((hD).other (gr_setCell _ w.heap.size 0 (.int .i64 p)) (by omega))).other (gr_setCell _ w.heap.size 1 (.slice go k gc)) (by omega))).other (gr_setCell _ (w.heap.size + 1) 0 (.slice po m pc)) (by omega))).other (gr_setCell _ (w.heap.size + 1) 1 (.slice eo q ec)) (by omega))).other (gr_setCell _ (w.heap.size + 1 + 1) 0 (.slice uo u uc)) (by omega))).other (gr_setCell _ (w.heap.size + 1 + 1) 1 (.slice vo v vc)) (by omega))
        have hBX : Below w.heap.size w ((((((wb.setCell ⟨w.heap.size, 0, none⟩ (.int .i64 p)).setCell ⟨w.heap.size, 1, none⟩ (.slice go k gc)).setCell ⟨w.heap.size + 1, 0, none⟩ (.slice po m pc)).setCell ⟨w.heap.size + 1, 1, none⟩ (.slice eo q ec)).setCell ⟨w.heap.size + 1 + 1, 0, none⟩ (.slice uo u uc)).setCell ⟨w.heap.size + 1 + 1, 1, none⟩ (.slice vo v vc)) := (ret_below (ret_below (ret_below hB0 (by omega) (.int .i64 p) (.slice go k gc)) (by omega) (.slice po m pc) (.slice eo q ec)) (by omega) (.slice uo u uc) (.slice vo v vc))
        have d0 : ((((((wb.setCell ⟨w.heap.size, 0, none⟩ (.int .i64 p)).setCell ⟨w.heap.size, 1, none⟩ (.slice go k gc)).setCell ⟨w.heap.size + 1, 0, none⟩ (.slice po m pc)).setCell ⟨w.heap.size + 1, 1, none⟩ (.slice eo q ec)).setCell ⟨w.heap.size + 1 + 1, 0, none⟩ (.slice uo u uc)).setCell ⟨w.heap.size + 1 + 1, 1, none⟩ (.slice vo v vc)).cell? ⟨w.heap.size, 0, none⟩ = some (.int .i64 p) := by simp [go_sem, r0, r1, r2, r3, r4, r5]
        have d1 : ((((((wb.setCell ⟨w.heap.size, 0, none⟩ (.int .i64 p)).setCell ⟨w.heap.size, 1, none⟩ (.slice go k gc)).setCell ⟨w.heap.size + 1, 0, none⟩ (.slice po m pc)).setCell ⟨w.heap.size + 1, 1, none⟩ (.slice eo q ec)).setCell ⟨w.heap.size + 1 + 1, 0, none⟩ (.slice uo u uc)).setCell ⟨w.heap.size + 1 + 1, 1, none⟩ (.slice vo v vc)).cell? ⟨w.heap.size, 1, none⟩ = some (.slice go k gc) := by simp [go_sem, r0, r1, r2, r3, r4, r5]
        have d2 : ((((((wb.setCell ⟨w.heap.size, 0, none⟩ (.int .i64 p)).setCell ⟨w.heap.size, 1, none⟩ (.slice go k gc)).setCell ⟨w.heap.size + 1, 0, none⟩ (.slice po m pc)).setCell ⟨w.heap.size + 1, 1, none⟩ (.slice eo q ec)).setCell ⟨w.heap.size + 1 + 1, 0, none⟩ (.slice uo u uc)).setCell ⟨w.heap.size + 1 + 1, 1, none⟩ (.slice vo v vc)).cell? ⟨w.heap.size + 1, 0, none⟩ = some (.slice po m pc) := by simp [go_sem, r0, r1, r2, r3, r4, r5]
        have d3 : ((((((wb.setCell ⟨w.heap.size, 0, none⟩ (.int .i64 p)).setCell ⟨w.heap.size, 1, none⟩ (.slice go k gc)).setCell ⟨w.heap.size + 1, 0, none⟩ (.slice po m pc)).setCell ⟨w.heap.size + 1, 1, none⟩ (.slice eo q ec)).setCell ⟨w.heap.size + 1 + 1, 0, none⟩ (.slice uo u uc)).setCell ⟨w.heap.size + 1 + 1, 1, none⟩ (.slice vo v vc)).cell? ⟨w.heap.size + 1, 1, none⟩ = some (.slice eo q ec) := by simp [go_sem, r0, r1, r2, r3, r4, r5]
        have d4 : ((((((wb.setCell ⟨w.heap.size, 0, none⟩ (.int .i64 p)).setCell ⟨w.heap.size, 1, none⟩ (.slice go k gc)).setCell ⟨w.heap.size + 1, 0, none⟩ (.slice po m pc)).setCell ⟨w.heap.size + 1, 1, none⟩ (.slice eo q ec)).setCell ⟨w.heap.size + 1 + 1, 0, none⟩ (.slice uo u uc)).setCell ⟨w.heap.size + 1 + 1, 1, none⟩ (.slice vo v vc)).cell? ⟨w.heap.size + 1 + 1, 0, none⟩ = some (.slice uo u uc) := by simp [go_sem, r0, r1, r2, r3, r4, r5]
        have d5 : ((((((wb.setCell ⟨w.heap.size, 0, none⟩ (.int .i64 p)).setCell ⟨w.heap.size, 1, none⟩ (.slice go k gc)).setCell ⟨w.heap.size + 1, 0, none⟩ (.slice po m pc)).setCell ⟨w.heap.size + 1, 1, none⟩ (.slice eo q ec)).setCell ⟨w.heap.size + 1 + 1, 0, none⟩ (.slice uo u uc)).setCell ⟨w.heap.size + 1 + 1, 1, none⟩ (.slice vo v vc)).cell? ⟨w.heap.size + 1 + 1, 1, none⟩ = some (.slice vo v vc) := by simp [go_sem, r0, r1, r2, r3, r4, r5]
        generalize ((((((wb.setCell ⟨w.heap.size, 0, none⟩ (.int .i64 p)).setCell ⟨w.heap.size, 1, none⟩ (.slice go k gc)).setCell ⟨w.heap.size + 1, 0, none⟩ (.slice po m pc)).setCell ⟨w.heap.size + 1, 1, none⟩ (.slice eo q ec)).setCell ⟨w.heap.size + 1 + 1, 0, none⟩ (.slice uo u uc)).setCell ⟨w.heap.size + 1 + 1, 1, none⟩ (.slice vo v vc)) = WX at hO hBX d0 d1 d2 d3 d4 d5 ⊢
        clear r0 z0 r1 z1 r2 z2 r3 z3 r4 z4 r5 z5
        simp [bodyPost, results, Tryz.results22, go_sem, d0, d1, d2, d3, d4, d5]
        exact ⟨p, go, k, gc, po, m, pc, P, eo, q, ec, L, H, uo, u, uc, U, vo, v, vc, V, (xa : Int), (xb : Int), rfl, by omega, ⟨wfa, wfb⟩, (hO.from (by omega)).next (Below.refl _ _).drew, hBX.drew⟩
    · have hszr := rx2.lt
      have a0 : w9.cell? ⟨gb, 0, none⟩ = some (.int .i64 p) := gx.cell (j := 0) (by omega)
      have a1 : w9.cell? ⟨gb, 1, none⟩ = some (.slice go k gc) := gx.cell (j := 1) (by omega)
      have a2 : w9.cell? ⟨hb, 0, none⟩ = some (.slice po m pc) := hx.cell (j := 0) (by omega)
      have a3 : w9.cell? ⟨hb, 1, none⟩ = some (.slice eo q ec) := hx.cell (j := 1) (by omega)
      have a4 : w9.cell? ⟨mb, 0, none⟩ = some (.slice uo u uc) := mx.cell (j := 0) (by omega)
      have a5 : w9.cell? ⟨mb, 1, none⟩ = some (.slice vo v vc) := mx.cell (j := 1) (by omega)
      have r0 : w9.cell? ⟨w.heap.size, 0, none⟩ = some (.int .i64 0) := rx0.cell (j := 0) (by omega)
      have z0 := rx0.frozen 0
      have r1 : w9.cell? ⟨w.heap.size, 1, none⟩ = some (.slice none 0 0) := rx0.cell (j := 1) (by omega)
      have z1 := rx0.frozen 1
      have r2 : w9.cell? ⟨w.heap.size + 1, 0, none⟩ = some (.slice none 0 0) := rx1.cell (j := 0) (by omega)
      have z2 := rx1.frozen 0
      have r3 : w9.cell? ⟨w.heap.size + 1, 1, none⟩ = some (.slice none 0 0) := rx1.cell (j := 1) (by omega)
      have z3 := rx1.frozen 1
      have r4 : w9.cell? ⟨w.heap.size + 1 + 1, 0, none⟩ = some (.slice none 0 0) := rx2.cell (j := 0) (by omega)
      have z4 := rx2.frozen 0
      have r5 : w9.cell? ⟨w.heap.size + 1 + 1, 1, none⟩ = some (.slice none 0 0) := rx2.cell (j := 1) (by omega)
      have z5 := rx2.frozen 1
      have hlr := rx2.lt
      go_wp2
      go_region_law (fail)
      all_goals
        clear r0 z0 r1 z1 r2 z2 r3 z3 r4 z4 r5 z5 hlr a0 a1 a2 a3 a4 a5
        have r0 : w9.cell? ⟨w.heap.size, 0, none⟩ = some (.int .i64 0) := rx0.cell (j := 0) (by omega)
        have z0 := rx0.frozen 0
        have r1 : w9.cell? ⟨w.heap.size, 1, none⟩ = some (.slice none 0 0) := rx0.cell (j := 1) (by omega)
        have z1 := rx0.frozen 1
        have r2 : w9.cell? ⟨w.heap.size + 1, 0, none⟩ = some (.slice none 0 0) := rx1.cell (j := 0) (by omega)
        have z2 := rx1.frozen 0
        have r3 : w9.cell? ⟨w.heap.size + 1, 1, none⟩ = some (.slice none 0 0) := rx1.cell (j := 1) (by omega)
        have z3 := rx1.frozen 1
        have r4 : w9.cell? ⟨w.heap.size + 1 + 1, 0, none⟩ = some (.slice none 0 0) := rx2.cell (j := 0) (by omega)
        have z4 := rx2.frozen 0
        have r5 : w9.cell? ⟨w.heap.size + 1 + 1, 1, none⟩ = some (.slice none 0 0) := rx2.cell (j := 1) (by omega)
        have z5 := rx2.frozen 1
        have hlr := rx2.lt
        go_wp2
        have hO := ((((((((((((hD).other (gr_setCell _ w.heap.size 0 (.int .i64 p)) (by omega))).other (gr_setCell _ w.heap.size 1 (.slice go k gc)) (by omega))).other (gr_setCell _ (w.heap.size + 1) 0 (.slice po m pc)) (by omega))).other (gr_setCell _ (w.heap.size + 1) 1 (.slice eo q ec)) (by omega))).other (gr_setCell _ (w.heap.size + 1 + 1) 0 (.slice uo u uc)) (by omega))).other (gr_setCell _ (w.heap.size + 1 + 1) 1 (.slice vo v vc)) (by omega))
        have hBX : Below w.heap.size w ((((((w9.setCell ⟨w.heap.size, 0, none⟩ (.int .i64 p)).setCell ⟨w.heap.size, 1, none⟩ (.slice go k gc)).setCell ⟨w.heap.size + 1, 0, none⟩ (.slice po m pc)).setCell ⟨w.heap.size + 1, 1, none⟩ (.slice eo q ec)).setCell ⟨w.heap.size + 1 + 1, 0, none⟩ (.slice uo u uc)).setCell ⟨w.heap.size + 1 + 1, 1, none⟩ (.slice vo v vc)) := (ret_below (ret_below (ret_below hB0 (by omega) (.int .i64 p) (.slice go k gc)) (by omega) (.slice po m pc) (.slice eo q ec)) (by omega) (.slice uo u uc) (.slice vo v vc))
        have d0 : ((((((w9.setCell ⟨w.heap.size, 0, none⟩ (.int .i64 p)).setCell ⟨w.heap.size, 1, none⟩ (.slice go k gc)).setCell ⟨w.heap.size + 1, 0, none⟩ (.slice po m pc)).setCell ⟨w.heap.size + 1, 1, none⟩ (.slice eo q ec)).setCell ⟨w.heap.size + 1 + 1, 0, none⟩ (.slice uo u uc)).setCell ⟨w.heap.size + 1 + 1, 1, none⟩ (.slice vo v vc)).cell? ⟨w.heap.size, 0, none⟩ = some (.int .i64 p) := by simp [go_sem, r0, r1, r2, r3, r4, r5]
        have d1 : ((((((w9.setCell ⟨w.heap.size, 0, none⟩ (.int .i64 p)).setCell ⟨w.heap.size, 1, none⟩ (.slice go k gc)).setCell ⟨w.heap.size + 1, 0, none⟩ (.slice po m pc)).setCell ⟨w.heap.size + 1, 1, none⟩ (.slice eo q ec)).setCell ⟨w.heap.size + 1 + 1, 0, none⟩ (.slice uo u uc)).setCell ⟨w.heap.size + 1 + 1, 1, none⟩ (.slice vo v vc)).cell? ⟨w.heap.size, 1, none⟩ = some (.slice go k gc) := by simp [go_sem, r0, r1, r2, r3, r4, r5]
        have d2 : ((((((w9.setCell ⟨w.heap.size, 0, none⟩ (.int .i64 p)).setCell ⟨w.heap.size, 1, none⟩ (.slice go k gc)).setCell ⟨w.heap.size + 1, 0, none⟩ (.slice po m pc)).setCell ⟨w.heap.size + 1, 1, none⟩ (.slice eo q ec)).setCell ⟨w.heap.size + 1 + 1, 0, none⟩ (.slice uo u uc)).setCell ⟨w.heap.size + 1 + 1, 1, none⟩ (.slice vo v vc)).cell? ⟨w.heap.size + 1, 0, none⟩ = some (.slice po m pc) := by simp [go_sem, r0, r1, r2, r3, r4, r5]
        have d3 : ((((((w9.setCell ⟨w.heap.size, 0, none⟩ (.int .i64 p)).setCell ⟨w.heap.size, 1, none⟩ (.slice go k gc)).setCell ⟨w.heap.size + 1, 0, none⟩ (.slice po m pc)).setCell ⟨w.heap.size + 1, 1, none⟩ (.slice eo q ec)).setCell ⟨w.heap.size + 1 + 1, 0, none⟩ (.slice uo u uc)).setCell ⟨w.heap.size + 1 + 1, 1, none⟩ (.slice vo v vc)).cell? ⟨w.heap.size + 1, 1, none⟩ = some (.slice eo q ec) := by simp [go_sem, r0, r1, r2, r3, r4, r5]
        have d4 : ((((((w9.setCell ⟨w.heap.size, 0, none⟩ (.int .i64 p)).setCell ⟨w.heap.size, 1, none⟩ (.slice go k gc)).setCell ⟨w.heap.size + 1, 0, none⟩ (.slice po m pc)).setCell ⟨w.heap.size + 1, 1, none⟩ (.slice eo q ec)).setCell ⟨w.heap.size + 1 + 1, 0, none⟩ (.slice uo u uc)).setCell ⟨w.heap.size + 1 + 1, 1, none⟩ (.slice vo v vc)).cell? ⟨w.heap.size + 1 + 1, 0, none⟩ = some (.slice uo u uc) := by simp [go_sem, r0, r1, r2, r3, r4, r5]
        have d5 : ((((((w9.setCell ⟨w.heap.size, 0, none⟩ (.int .i64 p)).setCell ⟨w.heap.size, 1, none⟩ (.slice go k gc)).setCell ⟨w.heap.size + 1, 0, none⟩ (.slice po m pc)).setCell ⟨w.heap.size + 1, 1, none⟩ (.slice eo q ec)).setCell ⟨w.heap.size + 1 + 1, 0, none⟩ (.slice uo u uc)).setCell ⟨w.heap.size + 1 + 1, 1, none⟩ (.slice vo v vc)).cell? ⟨w.heap.size + 1 + 1, 1, none⟩ = some (.slice vo v vc) := by simp [go_sem, r0, r1, r2, r3, r4, r5]
        generalize ((((((w9.setCell ⟨w.heap.size, 0, none⟩ (.int .i64 p)).setCell ⟨w.heap.size, 1, none⟩ (.slice go k gc)).setCell ⟨w.heap.size + 1, 0, none⟩ (.slice po m pc)).setCell ⟨w.heap.size + 1, 1, none⟩ (.slice eo q ec)).setCell ⟨w.heap.size + 1 + 1, 0, none⟩ (.slice uo u uc)).setCell ⟨w.heap.size + 1 + 1, 1, none⟩ (.slice vo v vc)) = WX at hO hBX d0 d1 d2 d3 d4 d5 ⊢
        clear r0 z0 r1 z1 r2 z2 r3 z3 r4 z4 r5 z5
        simp [bodyPost, results, Tryz.results22, go_sem, d0, d1, d2, d3, d4, d5]
        exact ⟨p, go, k, gc, po, m, pc, P, eo, q, ec, L, H, uo, u, uc, U, vo, v, vc, V, x, y, rfl, by omega, ⟨QX.out, QY.out⟩, (hO.from (by omega)).next (Below.refl _ _).drew, hBX.drew⟩
  subst hq1
  have hszr := rx2.lt
  have a0 : w7.cell? ⟨gb, 0, none⟩ = some (.int .i64 p) := gx.cell (j := 0) (by omega)
  have a1 : w7.cell? ⟨gb, 1, none⟩ = some (.slice go k gc) := gx.cell (j := 1) (by omega)
  have a2 : w7.cell? ⟨hb, 0, none⟩ = some (.slice po 0 pc) := hx.cell (j := 0) (by omega)
  have a3 : w7.cell? ⟨hb, 1, none⟩ = some (.slice eo q ec) := hx.cell (j := 1) (by omega)
  have a4 : w7.cell? ⟨mb, 0, none⟩ = some (.slice uo u uc) := mx.cell (j := 0) (by omega)
  have a5 : w7.cell? ⟨mb, 1, none⟩ = some (.slice vo v vc) := mx.cell (j := 1) (by omega)
  have r0 : w7.cell? ⟨w.heap.size, 0, none⟩ = some (.int .i64 0) := rx0.cell (j := 0) (by omega)
  have z0 := rx0.frozen 0
  have r1 : w7.cell? ⟨w.heap.size, 1, none⟩ = some (.slice none 0 0) := rx0.cell (j := 1) (by omega)
  have z1 := rx0.frozen 1
  have r2 : w7.cell? ⟨w.heap.size + 1, 0, none⟩ = some (.slice none 0 0) := rx1.cell (j := 0) (by omega)
  have z2 := rx1.frozen 0
  have r3 : w7.cell? ⟨w.heap.size + 1, 1, none⟩ = some (.slice none 0 0) := rx1.cell (j := 1) (by omega)
  have z3 := rx1.frozen 1
  have r4 : w7.cell? ⟨w.heap.size + 1 + 1, 0, none⟩ = some (.slice none 0 0) := rx2.cell (j := 0) (by omega)
  have z4 := rx2.frozen 0
  have r5 : w7.cell? ⟨w.heap.size + 1 + 1, 1, none⟩ = some (.slice none 0 0) := rx2.cell (j := 1) (by omega)
  have z5 := rx2.frozen 1
  have hlr := rx2.lt
  go_wp2
  go_region_law (fail)
  all_goals
    clear r0 z0 r1 z1 r2 z2 r3 z3 r4 z4 r5 z5 hlr a0 a1 a2 a3 a4 a5
    have r0 : w7.cell? ⟨w.heap.size, 0, none⟩ = some (.int .i64 0) := rx0.cell (j := 0) (by omega)
    have z0 := rx0.frozen 0
    have r1 : w7.cell? ⟨w.heap.size, 1, none⟩ = some (.slice none 0 0) := rx0.cell (j := 1) (by omega)
    have z1 := rx0.frozen 1
    have r2 : w7.cell? ⟨w.heap.size + 1, 0, none⟩ = some (.slice none 0 0) := rx1.cell (j := 0) (by omega)
    have z2 := rx1.frozen 0
    have r3 : w7.cell? ⟨w.heap.size + 1, 1, none⟩ = some (.slice none 0 0) := rx1.cell (j := 1) (by omega)
    have z3 := rx1.frozen 1
    have r4 : w7.cell? ⟨w.heap.size + 1 + 1, 0, none⟩ = some (.slice none 0 0) := rx2.cell (j := 0) (by omega)
    have z4 := rx2.frozen 0
    have r5 : w7.cell? ⟨w.heap.size + 1 + 1, 1, none⟩ = some (.slice none 0 0) := rx2.cell (j := 1) (by omega)
    have z5 := rx2.frozen 1
    have hlr := rx2.lt
    go_wp2
    have hO := ((((((((((((hD).other (gr_setCell _ w.heap.size 0 (.int .i64 p)) (by omega))).other (gr_setCell _ w.heap.size 1 (.slice go k gc)) (by omega))).other (gr_setCell _ (w.heap.size + 1) 0 (.slice po 0 pc)) (by omega))).other (gr_setCell _ (w.heap.size + 1) 1 (.slice eo q ec)) (by omega))).other (gr_setCell _ (w.heap.size + 1 + 1) 0 (.slice uo u uc)) (by omega))).other (gr_setCell _ (w.heap.size + 1 + 1) 1 (.slice vo v vc)) (by omega))
    have hBX : Below w.heap.size w ((((((w7.setCell ⟨w.heap.size, 0, none⟩ (.int .i64 p)).setCell ⟨w.heap.size, 1, none⟩ (.slice go k gc)).setCell ⟨w.heap.size + 1, 0, none⟩ (.slice po 0 pc)).setCell ⟨w.heap.size + 1, 1, none⟩ (.slice eo q ec)).setCell ⟨w.heap.size + 1 + 1, 0, none⟩ (.slice uo u uc)).setCell ⟨w.heap.size + 1 + 1, 1, none⟩ (.slice vo v vc)) := (ret_below (ret_below (ret_below hB0 (by omega) (.int .i64 p) (.slice go k gc)) (by omega) (.slice po 0 pc) (.slice eo q ec)) (by omega) (.slice uo u uc) (.slice vo v vc))
    have d0 : ((((((w7.setCell ⟨w.heap.size, 0, none⟩ (.int .i64 p)).setCell ⟨w.heap.size, 1, none⟩ (.slice go k gc)).setCell ⟨w.heap.size + 1, 0, none⟩ (.slice po 0 pc)).setCell ⟨w.heap.size + 1, 1, none⟩ (.slice eo q ec)).setCell ⟨w.heap.size + 1 + 1, 0, none⟩ (.slice uo u uc)).setCell ⟨w.heap.size + 1 + 1, 1, none⟩ (.slice vo v vc)).cell? ⟨w.heap.size, 0, none⟩ = some (.int .i64 p) := by simp [go_sem, r0, r1, r2, r3, r4, r5]
    have d1 : ((((((w7.setCell ⟨w.heap.size, 0, none⟩ (.int .i64 p)).setCell ⟨w.heap.size, 1, none⟩ (.slice go k gc)).setCell ⟨w.heap.size + 1, 0, none⟩ (.slice po 0 pc)).setCell ⟨w.heap.size + 1, 1, none⟩ (.slice eo q ec)).setCell ⟨w.heap.size + 1 + 1, 0, none⟩ (.slice uo u uc)).setCell ⟨w.heap.size + 1 + 1, 1, none⟩ (.slice vo v vc)).cell? ⟨w.heap.size, 1, none⟩ = some (.slice go k gc) := by simp [go_sem, r0, r1, r2, r3, r4, r5]
    have d2 : ((((((w7.setCell ⟨w.heap.size, 0, none⟩ (.int .i64 p)).setCell ⟨w.heap.size, 1, none⟩ (.slice go k gc)).setCell ⟨w.heap.size + 1, 0, none⟩ (.slice po 0 pc)).setCell ⟨w.heap.size + 1, 1, none⟩ (.slice eo q ec)).setCell ⟨w.heap.size + 1 + 1, 0, none⟩ (.slice uo u uc)).setCell ⟨w.heap.size + 1 + 1, 1, none⟩ (.slice vo v vc)).cell? ⟨w.heap.size + 1, 0, none⟩ = some (.slice po 0 pc) := by simp [go_sem, r0, r1, r2, r3, r4, r5]
    have d3 : ((((((w7.setCell ⟨w.heap.size, 0, none⟩ (.int .i64 p)).setCell ⟨w.heap.size, 1, none⟩ (.slice go k gc)).setCell ⟨w.heap.size + 1, 0, none⟩ (.slice po 0 pc)).setCell ⟨w.heap.size + 1, 1, none⟩ (.slice eo q ec)).setCell ⟨w.heap.size + 1 + 1, 0, none⟩ (.slice uo u uc)).setCell ⟨w.heap.size + 1 + 1, 1, none⟩ (.slice vo v vc)).cell? ⟨w.heap.size + 1, 1, none⟩ = some (.slice eo q ec) := by simp [go_sem, r0, r1, r2, r3, r4, r5]
    have d4 : ((((((w7.setCell ⟨w.heap.size, 0, none⟩ (.int .i64 p)).setCell ⟨w.heap.size, 1, none⟩ (.slice go k gc)).setCell ⟨w.heap.size + 1, 0, none⟩ (.slice po 0 pc)).setCell ⟨w.heap.size + 1, 1, none⟩ (.slice eo q ec)).setCell ⟨w.heap.size + 1 + 1, 0, none⟩ (.slice uo u uc)).setCell ⟨w.heap.size + 1 + 1, 1, none⟩ (.slice vo v vc)).cell? ⟨w.heap.size + 1 + 1, 0, none⟩ = some (.slice uo u uc) := by simp [go_sem, r0, r1, r2, r3, r4, r5]
    have d5 : ((((((w7.setCell ⟨w.heap.size, 0, none⟩ (.int .i64 p)).setCell ⟨w.heap.size, 1, none⟩ (.slice go k gc)).setCell ⟨w.heap.size + 1, 0, none⟩ (.slice po 0 pc)).setCell ⟨w.heap.size + 1, 1, none⟩ (.slice eo q ec)).setCell ⟨w.heap.size + 1 + 1, 0, none⟩ (.slice uo u uc)).setCell ⟨w.heap.size + 1 + 1, 1, none⟩ (.slice vo v vc)).cell? ⟨w.heap.size + 1 + 1, 1, none⟩ = some (.slice vo v vc) := by simp [go_sem, r0, r1, r2, r3, r4, r5]
    generalize ((((((w7.setCell ⟨w.heap.size, 0, none⟩ (.int .i64 p)).setCell ⟨w.heap.size, 1, none⟩ (.slice go k gc)).setCell ⟨w.heap.size + 1, 0, none⟩ (.slice po 0 pc)).setCell ⟨w.heap.size + 1, 1, none⟩ (.slice eo q ec)).setCell ⟨w.heap.size + 1 + 1, 0, none⟩ (.slice uo u uc)).setCell ⟨w.heap.size + 1 + 1, 1, none⟩ (.slice vo v vc)) = WX at hO hBX d0 d1 d2 d3 d4 d5 ⊢
    clear r0 z0 r1 z1 r2 z2 r3 z3 r4 z4 r5 z5
    simp [bodyPost, results, Tryz.results22, go_sem, d0, d1, d2, d3, d4, d5]
    exact ⟨p, go, k, gc, po, 0, pc, P, eo, q, ec, L, H, uo, u, uc, U, vo, v, vc, V, x, y, rfl, by omega, ⟨QX.out, QY.out⟩, (hO.from (by omega)).next (Below.refl _ _).drew, hBX.drew⟩

end Go.Proofs.YtokaechbmnbbiabGreat
