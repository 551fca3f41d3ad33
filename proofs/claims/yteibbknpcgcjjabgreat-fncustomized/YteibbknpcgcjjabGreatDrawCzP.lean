/-
  The document's draws of chapter 5.
-/
import Derived.Test.YteibbknpcgcjjabGreatDrawRDP
import Derived.Test.YteibbknpcgcjjabGreatDrawArP
import Derived.Test.YteibbknpcgcjjabGreatPack9
import Derived.Test.YteibbknpcgcjjabGreatPack8
import Derived.Deep.RegionHeld3
set_option linter.unusedVariables false
set_option linter.unusedSimpArgs false
namespace Go.Proofs.YteibbknpcgcjjabGreat
open Go.RowKit Go.Maps Go.Deep Go.Joins
attribute [local go_sem ↓] Go.wp_at_zero Go.wp_at_succ

theorem cell_set_ne {W : World} {b b' i j : Nat} {v u : Value} (h : b' ≠ b) (hc : W.cell? ⟨b, i, none⟩ = some u) : (W.setCell ⟨b', j, none⟩ v).cell? ⟨b, i, none⟩ = some u := (gr_setCell W b' j v).cell hc (by simp; omega)
/-- What DrawHierOk and DrawCustomize answer. -/
def DrawnHO (w : World) (e : Ending) (w' : World) : Prop := ∃ (p : Int) (go : Option Addr) (k gc : Nat) (po : Option Addr) (m pc : Nat) (P : Nat → Int) (eo : Option Addr) (q ec : Nat) (L H : Nat → Int), e = .returned (.tuple #[.agg #[.int .i64 p, .slice go k gc], .agg #[.slice po m pc, .slice eo q ec]]) ∧ (k ≤ 200 ∧ m ≤ 24 ∧ q ≤ 217 ∧ q ≤ ec) ∧ RD w.heap.size go k gc po m P eo q L H none 0 (fun _ => 0) none 0 (fun _ => 0) w' ∧ Below w.heap.size w w'
/-- What DrawMetricOk answers. -/
def DrawnMO (w : World) (e : Ending) (w' : World) : Prop := ∃ (go : Option Addr) (k gc : Nat) (po : Option Addr) (m pc : Nat) (P : Nat → Int) (eo : Option Addr) (q ec : Nat) (L H : Nat → Int) (uo : Option Addr) (u uc : Nat) (U : Nat → Int) (vo : Option Addr) (v vc : Nat) (V : Nat → Int), e = .returned (.tuple #[.agg #[.slice po m pc, .slice eo q ec], .agg #[.slice uo u uc, .slice vo v vc]]) ∧ (m ≤ 24 ∧ q ≤ 217 ∧ q ≤ ec ∧ u ≤ 1001 ∧ v ≤ 1001) ∧ RD w.heap.size go k gc po m P eo q L H uo u U vo v V w' ∧ Below w.heap.size w w'
/-- What DrawRecustomize answers. -/
def DrawnRC (w : World) (e : Ending) (w' : World) : Prop := ∃ (p : Int) (go : Option Addr) (k gc : Nat) (po : Option Addr) (m pc : Nat) (P : Nat → Int) (eo : Option Addr) (q ec : Nat) (L H : Nat → Int) (uo : Option Addr) (u uc : Nat) (U : Nat → Int) (vo : Option Addr) (v vc : Nat) (V : Nat → Int) (xo : Option Addr) (x xc : Nat), e = .returned (.tuple #[.agg #[.int .i64 p, .slice go k gc], .agg #[.slice po m pc, .slice eo q ec], .agg #[.slice uo u uc, .slice vo v vc], .slice xo x xc]) ∧ (k ≤ 200 ∧ m ≤ 24 ∧ q ≤ 217 ∧ q ≤ ec ∧ u ≤ 1001 ∧ v ≤ 1001 ∧ x ≤ 4) ∧ RD w.heap.size go k gc po m P eo q L H uo u U vo v V w' ∧ AOwnE w' w.heap.size xo x xc ∧ Below w.heap.size w w'

set_option maxRecDepth 100000 in
set_option maxHeartbeats 4000000 in
theorem drawHierOk_any (ao : Option Addr) (n cap : Nat) (hn : n ≤ 4096) (w : World) (hr : ByRow w w.heap.size ao n) :
    Calls Tryz.prog 28 #[.slice ao n cap] w fun e w' => DrawnHO w e w' := by
  have hal0 := (Below.refl _ w).alloc (Nat.le_refl _) (.cells #[.int .i64 0, .slice none 0 0] 26)
  have hal1 := (Below.refl _ (w.alloc (.cells #[.int .i64 0, .slice none 0 0] 26))).alloc (Nat.le_refl _) (.cells #[.slice none 0 0, .slice none 0 0] 30)
  have hB0 := below_next (hal0) (Nat.le_refl _) hal1
  have rx0 := ((gr_new (w) 0 (.slice none 0 0)).next hal1)
  have rx1 := (hi2_new ((w.alloc (.cells #[.int .i64 0, .slice none 0 0] 26))) (.slice none 0 0) (.slice none 0 0))
  have hz0 : ((w.alloc (.cells #[.int .i64 0, .slice none 0 0] 26)).alloc (.cells #[.slice none 0 0, .slice none 0 0] 30)).heap.size = w.heap.size + 2 := by simp
  go_enter Tryz.func28, Tryz.ntmps28
  go_wp2_with fail
  generalize ((w.alloc (.cells #[.int .i64 0, .slice none 0 0] 26)).alloc (.cells #[.slice none 0 0, .slice none 0 0] 30)) = W0 at hB0 rx0 rx1 hz0 ⊢
  simp only [World.size_alloc] at rx0 rx1
  clear hal0 hal1
  refine (l1New_any ao n cap hn _ (hr.up hB0)).mono ?_
  rintro e w1 ⟨c, rfl, hC1, hb1⟩
  have hcg := hC1.ge
  have hcl := hC1.lt
  have hs1 := hb1.size
  replace rx0 := rx0.next hb1
  replace rx1 := rx1.next hb1
  replace hB0 := below_next hB0 (Nat.le_refl _) hb1
  clear hb1
  go_wp2_with fail
  refine (l5DrawAny_any _ c ao n cap _ hC1).mono ?_
  rintro e w2 ⟨p, go, k, gc, po, m, pc, P, eo, q, ec, L, H, rfl, ⟨hk, hm, hq, hec⟩, hR⟩
  have hs2 := hR.gr.size
  replace rx0 := rx0.grown hR.gr (by simp; omega)
  replace rx1 := rx1.grown hR.gr (by simp; omega)
  replace hB0 := hB0.trans (gr_below hR.gr (by omega) (by omega))
  have r0 : w2.cell? ⟨w.heap.size, 0, none⟩ = some (.int .i64 0) := rx0.cell (j := 0) (by omega)
  have z0 := rx0.frozen 0
  have r1 : w2.cell? ⟨w.heap.size, 1, none⟩ = some (.slice none 0 0) := rx0.cell (j := 1) (by omega)
  have z1 := rx0.frozen 1
  have r2 : w2.cell? ⟨w.heap.size + 1, 0, none⟩ = some (.slice none 0 0) := rx1.cell (j := 0) (by omega)
  have z2 := rx1.frozen 0
  have r3 : w2.cell? ⟨w.heap.size + 1, 1, none⟩ = some (.slice none 0 0) := rx1.cell (j := 1) (by omega)
  have z3 := rx1.frozen 1
  have hlr := rx1.lt
  go_wp2
  have hO := ((((((((hR.rd).other (gr_setCell _ w.heap.size 0 (.int .i64 p)) (by omega))).other (gr_setCell _ w.heap.size 1 (.slice go k gc)) (by omega))).other (gr_setCell _ (w.heap.size + 1) 0 (.slice po m pc)) (by omega))).other (gr_setCell _ (w.heap.size + 1) 1 (.slice eo q ec)) (by omega))
  have hBX : Below w.heap.size w ((((w2.setCell ⟨w.heap.size, 0, none⟩ (.int .i64 p)).setCell ⟨w.heap.size, 1, none⟩ (.slice go k gc)).setCell ⟨w.heap.size + 1, 0, none⟩ (.slice po m pc)).setCell ⟨w.heap.size + 1, 1, none⟩ (.slice eo q ec)) := (ret_below (ret_below hB0 (by omega) (.int .i64 p) (.slice go k gc)) (by omega) (.slice po m pc) (.slice eo q ec))
  have d0 : ((((w2.setCell ⟨w.heap.size, 0, none⟩ (.int .i64 p)).setCell ⟨w.heap.size, 1, none⟩ (.slice go k gc)).setCell ⟨w.heap.size + 1, 0, none⟩ (.slice po m pc)).setCell ⟨w.heap.size + 1, 1, none⟩ (.slice eo q ec)).cell? ⟨w.heap.size, 0, none⟩ = some (.int .i64 p) := by simp [go_sem, r0, r1, r2, r3]
  have d1 : ((((w2.setCell ⟨w.heap.size, 0, none⟩ (.int .i64 p)).setCell ⟨w.heap.size, 1, none⟩ (.slice go k gc)).setCell ⟨w.heap.size + 1, 0, none⟩ (.slice po m pc)).setCell ⟨w.heap.size + 1, 1, none⟩ (.slice eo q ec)).cell? ⟨w.heap.size, 1, none⟩ = some (.slice go k gc) := by simp [go_sem, r0, r1, r2, r3]
  have d2 : ((((w2.setCell ⟨w.heap.size, 0, none⟩ (.int .i64 p)).setCell ⟨w.heap.size, 1, none⟩ (.slice go k gc)).setCell ⟨w.heap.size + 1, 0, none⟩ (.slice po m pc)).setCell ⟨w.heap.size + 1, 1, none⟩ (.slice eo q ec)).cell? ⟨w.heap.size + 1, 0, none⟩ = some (.slice po m pc) := by simp [go_sem, r0, r1, r2, r3]
  have d3 : ((((w2.setCell ⟨w.heap.size, 0, none⟩ (.int .i64 p)).setCell ⟨w.heap.size, 1, none⟩ (.slice go k gc)).setCell ⟨w.heap.size + 1, 0, none⟩ (.slice po m pc)).setCell ⟨w.heap.size + 1, 1, none⟩ (.slice eo q ec)).cell? ⟨w.heap.size + 1, 1, none⟩ = some (.slice eo q ec) := by simp [go_sem, r0, r1, r2, r3]
  generalize ((((w2.setCell ⟨w.heap.size, 0, none⟩ (.int .i64 p)).setCell ⟨w.heap.size, 1, none⟩ (.slice go k gc)).setCell ⟨w.heap.size + 1, 0, none⟩ (.slice po m pc)).setCell ⟨w.heap.size + 1, 1, none⟩ (.slice eo q ec)) = WX at hO hBX d0 d1 d2 d3 ⊢
  clear r0 z0 r1 z1 r2 z2 r3 z3
  simp [bodyPost, results, Tryz.results28, go_sem, d0, d1, d2, d3]
  exact ⟨p, go, k, gc, po, m, pc, P, eo, q, ec, L, H, rfl, by omega, hO.from (by omega), hBX⟩

set_option maxRecDepth 100000 in
set_option maxHeartbeats 4000000 in
theorem drawCustomize_any (ao : Option Addr) (n cap : Nat) (hn : n ≤ 4096) (w : World) (hr : ByRow w w.heap.size ao n) :
    Calls Tryz.prog 6 #[.slice ao n cap] w fun e w' => DrawnHO w e w' := by
  have hal0 := (Below.refl _ w).alloc (Nat.le_refl _) (.cells #[.int .i64 0, .slice none 0 0] 26)
  have hal1 := (Below.refl _ (w.alloc (.cells #[.int .i64 0, .slice none 0 0] 26))).alloc (Nat.le_refl _) (.cells #[.slice none 0 0, .slice none 0 0] 30)
  have hB0 := below_next (hal0) (Nat.le_refl _) hal1
  have rx0 := ((gr_new (w) 0 (.slice none 0 0)).next hal1)
  have rx1 := (hi2_new ((w.alloc (.cells #[.int .i64 0, .slice none 0 0] 26))) (.slice none 0 0) (.slice none 0 0))
  have hz0 : ((w.alloc (.cells #[.int .i64 0, .slice none 0 0] 26)).alloc (.cells #[.slice none 0 0, .slice none 0 0] 30)).heap.size = w.heap.size + 2 := by simp
  go_enter Tryz.func6, Tryz.ntmps6
  go_wp2_with fail
  generalize ((w.alloc (.cells #[.int .i64 0, .slice none 0 0] 26)).alloc (.cells #[.slice none 0 0, .slice none 0 0] 30)) = W0 at hB0 rx0 rx1 hz0 ⊢
  simp only [World.size_alloc] at rx0 rx1
  clear hal0 hal1
  refine (drawHierOk_any ao n cap hn _ (hr.up hB0)).mono ?_
  rintro e w2 ⟨p, go, k, gc, po, m, pc, P, eo, q, ec, L, H, rfl, ⟨hk, hm, hq, hec⟩, hR, hb1⟩
  have hs2 := hb1.size
  replace rx0 := rx0.next hb1
  replace rx1 := rx1.next hb1
  replace hB0 := below_next hB0 (Nat.le_refl _) hb1
  have r0 : w2.cell? ⟨w.heap.size, 0, none⟩ = some (.int .i64 0) := rx0.cell (j := 0) (by omega)
  have z0 := rx0.frozen 0
  have r1 : w2.cell? ⟨w.heap.size, 1, none⟩ = some (.slice none 0 0) := rx0.cell (j := 1) (by omega)
  have z1 := rx0.frozen 1
  have r2 : w2.cell? ⟨w.heap.size + 1, 0, none⟩ = some (.slice none 0 0) := rx1.cell (j := 0) (by omega)
  have z2 := rx1.frozen 0
  have r3 : w2.cell? ⟨w.heap.size + 1, 1, none⟩ = some (.slice none 0 0) := rx1.cell (j := 1) (by omega)
  have z3 := rx1.frozen 1
  have hlr := rx1.lt
  go_wp2
  have hO := ((((((((hR).other (gr_setCell _ w.heap.size 0 (.int .i64 p)) (by omega))).other (gr_setCell _ w.heap.size 1 (.slice go k gc)) (by omega))).other (gr_setCell _ (w.heap.size + 1) 0 (.slice po m pc)) (by omega))).other (gr_setCell _ (w.heap.size + 1) 1 (.slice eo q ec)) (by omega))
  have hBX : Below w.heap.size w ((((w2.setCell ⟨w.heap.size, 0, none⟩ (.int .i64 p)).setCell ⟨w.heap.size, 1, none⟩ (.slice go k gc)).setCell ⟨w.heap.size + 1, 0, none⟩ (.slice po m pc)).setCell ⟨w.heap.size + 1, 1, none⟩ (.slice eo q ec)) := (ret_below (ret_below hB0 (by omega) (.int .i64 p) (.slice go k gc)) (by omega) (.slice po m pc) (.slice eo q ec))
  have d0 : ((((w2.setCell ⟨w.heap.size, 0, none⟩ (.int .i64 p)).setCell ⟨w.heap.size, 1, none⟩ (.slice go k gc)).setCell ⟨w.heap.size + 1, 0, none⟩ (.slice po m pc)).setCell ⟨w.heap.size + 1, 1, none⟩ (.slice eo q ec)).cell? ⟨w.heap.size, 0, none⟩ = some (.int .i64 p) := by simp [go_sem, r0, r1, r2, r3]
  have d1 : ((((w2.setCell ⟨w.heap.size, 0, none⟩ (.int .i64 p)).setCell ⟨w.heap.size, 1, none⟩ (.slice go k gc)).setCell ⟨w.heap.size + 1, 0, none⟩ (.slice po m pc)).setCell ⟨w.heap.size + 1, 1, none⟩ (.slice eo q ec)).cell? ⟨w.heap.size, 1, none⟩ = some (.slice go k gc) := by simp [go_sem, r0, r1, r2, r3]
  have d2 : ((((w2.setCell ⟨w.heap.size, 0, none⟩ (.int .i64 p)).setCell ⟨w.heap.size, 1, none⟩ (.slice go k gc)).setCell ⟨w.heap.size + 1, 0, none⟩ (.slice po m pc)).setCell ⟨w.heap.size + 1, 1, none⟩ (.slice eo q ec)).cell? ⟨w.heap.size + 1, 0, none⟩ = some (.slice po m pc) := by simp [go_sem, r0, r1, r2, r3]
  have d3 : ((((w2.setCell ⟨w.heap.size, 0, none⟩ (.int .i64 p)).setCell ⟨w.heap.size, 1, none⟩ (.slice go k gc)).setCell ⟨w.heap.size + 1, 0, none⟩ (.slice po m pc)).setCell ⟨w.heap.size + 1, 1, none⟩ (.slice eo q ec)).cell? ⟨w.heap.size + 1, 1, none⟩ = some (.slice eo q ec) := by simp [go_sem, r0, r1, r2, r3]
  generalize ((((w2.setCell ⟨w.heap.size, 0, none⟩ (.int .i64 p)).setCell ⟨w.heap.size, 1, none⟩ (.slice go k gc)).setCell ⟨w.heap.size + 1, 0, none⟩ (.slice po m pc)).setCell ⟨w.heap.size + 1, 1, none⟩ (.slice eo q ec)) = WX at hO hBX d0 d1 d2 d3 ⊢
  clear r0 z0 r1 z1 r2 z2 r3 z3
  simp [bodyPost, results, Tryz.results6, go_sem, d0, d1, d2, d3]
  exact ⟨p, go, k, gc, po, m, pc, P, eo, q, ec, L, H, rfl, by omega, hO.from (by omega), hBX⟩

set_option maxRecDepth 100000 in
set_option maxHeartbeats 4000000 in
theorem drawMetricOk_any (ao : Option Addr) (n cap : Nat) (hn : n ≤ 4096) (w : World) (hr : ByRow w w.heap.size ao n) :
    Calls Tryz.prog 15 #[.slice ao n cap] w fun e w' => DrawnMO w e w' := by
  have hal0 := (Below.refl _ w).alloc (Nat.le_refl _) (.cells #[.slice none 0 0, .slice none 0 0] 30)
  have hal1 := (Below.refl _ (w.alloc (.cells #[.slice none 0 0, .slice none 0 0] 30))).alloc (Nat.le_refl _) (.cells #[.slice none 0 0, .slice none 0 0] 34)
  have hB0 := below_next (hal0) (Nat.le_refl _) hal1
  have rx0 := ((hi2_new (w) (.slice none 0 0) (.slice none 0 0)).next hal1)
  have rx1 := (me2_new ((w.alloc (.cells #[.slice none 0 0, .slice none 0 0] 30))) (.slice none 0 0) (.slice none 0 0))
  have hz0 : ((w.alloc (.cells #[.slice none 0 0, .slice none 0 0] 30)).alloc (.cells #[.slice none 0 0, .slice none 0 0] 34)).heap.size = w.heap.size + 2 := by simp
  go_enter Tryz.func15, Tryz.ntmps15
  go_wp2_with fail
  generalize ((w.alloc (.cells #[.slice none 0 0, .slice none 0 0] 30)).alloc (.cells #[.slice none 0 0, .slice none 0 0] 34)) = W0 at hB0 rx0 rx1 hz0 ⊢
  simp only [World.size_alloc] at rx0 rx1
  clear hal0 hal1
  refine (l1New_any ao n cap hn _ (hr.up hB0)).mono ?_
  rintro e w1 ⟨c, rfl, hC1, hb1⟩
  have hcg := hC1.ge
  have hcl := hC1.lt
  have hs1 := hb1.size
  replace rx0 := rx0.next hb1
  replace rx1 := rx1.next hb1
  replace hB0 := below_next hB0 (Nat.le_refl _) hb1
  clear hb1
  go_wp2_with fail
  refine (l5DrawAny_any _ c ao n cap _ hC1).mono ?_
  rintro e w2 ⟨p, go, k, gc, po, m, pc, P, eo, q, ec, L, H, rfl, ⟨hk, hm, hq, hec⟩, hR⟩
  have hs2 := hR.gr.size
  replace rx0 := rx0.grown hR.gr (by simp; omega)
  replace rx1 := rx1.grown hR.gr (by simp; omega)
  replace hB0 := hB0.trans (gr_below hR.gr (by omega) (by omega))
  have ha1 := (Below.refl w2.heap.size w2).alloc (Nat.le_refl _) (.cells #[.int .i64 p, .slice go k gc] 26)
  have ha2 := (Below.refl _ (w2.alloc (.cells #[.int .i64 p, .slice go k gc] 26))).alloc (Nat.le_refl _) (.cells #[.slice po m pc, .slice eo q ec] 30)
  have haa := below_next ha1 (Nat.le_refl _) ha2
  replace rx0 := rx0.next haa
  replace rx1 := rx1.next haa
  have gx := (gr_new w2 p (.slice go k gc)).next ha2
  have hx := hi2_new (w2.alloc (.cells #[.int .i64 p, .slice go k gc] 26)) (.slice po m pc) (.slice eo q ec)
  simp only [World.size_alloc] at hx
  have hC2 := hR.cur.next haa
  have hD := hR.rd.next haa
  have hsz : ((w2.alloc (.cells #[.int .i64 p, .slice go k gc] 26)).alloc (.cells #[.slice po m pc, .slice eo q ec] 30)).heap.size = w2.heap.size + 2 := by simp
  have hszB := hB0.size
  replace hB0 := hB0.trans (haa.mono hszB)
  clear ha1 ha2 haa hR
  go_wp2_with fail
  generalize ((w2.alloc (.cells #[.int .i64 p, .slice go k gc] 26)).alloc (.cells #[.slice po m pc, .slice eo q ec] 30)) = W3 at gx hx hC2 hD hsz hB0 rx0 rx1 ⊢
  obtain ⟨gb, hgb⟩ : ∃ gb, w2.heap.size = gb := ⟨_, rfl⟩
  obtain ⟨hb, hhb⟩ : ∃ hb, gb + 1 = hb := ⟨_, rfl⟩
  simp only [hgb] at gx hx hsz hs2 ⊢
  simp only [hhb] at hx ⊢
  have hDd := hD.next (Below.refl W3.heap.size W3).drew
  have hCd := hC2.next (Below.refl W3.heap.size W3).drew
  have hBd := hB0.drew
  have gxd := gx.next (Below.refl W3.heap.size W3).drew
  have hxd := hx.next (Below.refl W3.heap.size W3).drew
  have rx0d := rx0.next (Below.refl W3.heap.size W3).drew
  have rx1d := rx1.next (Below.refl W3.heap.size W3).drew
  clear hD hC2 hB0 gx hx rx0 rx1
  have hB0 := hBd
  have rx0 := rx0d
  have rx1 := rx1d
  clear hBd rx0d rx1d
  obtain ⟨F, T, G, hrow, hwf, hap⟩ := hDd.arcs.apart (c := c) (by omega)
  have g0 : W3.drew.cell? ⟨gb, 0, none⟩ = some (.int .i64 p) := gxd.cell (j := 0) (by omega)
  have g1 : W3.drew.cell? ⟨gb, 1, none⟩ = some (.slice go k gc) := gxd.cell (j := 1) (by omega)
  have h0 : W3.drew.cell? ⟨hb, 0, none⟩ = some (.slice po m pc) := hxd.cell (j := 0) (by omega)
  have h1 : W3.drew.cell? ⟨hb, 1, none⟩ = some (.slice eo q ec) := hxd.cell (j := 1) (by omega)
  have hsd : W3.drew.heap.size = gb + 2 := hsz
  have HM9 : Hid (Calls Tryz.prog 45 #[.pointer (some ⟨c, 0, none⟩), .agg #[.int .i64 p, .slice go k gc], .agg #[.slice po m pc, .slice eo q ec]] W3.drew fun e w' => DrawnM W3.drew _ c ao n cap e w') := l5DrawMetric_any _ c ao n cap p go k gc F T G po m pc P eo q ec L H hk hm hq W3.drew hCd hrow hDd.ord hDd.edg
  go_region_held3 (fun w' => w'.cell? ⟨gb, 0, none⟩ = some (.int .i64 p) ∧ w'.cell? ⟨gb, 1, none⟩ = some (.slice go k gc) ∧ w'.cell? ⟨hb, 0, none⟩ = some (.slice po m pc) ∧ w'.cell? ⟨hb, 1, none⟩ = some (.slice eo q ec))
    (first | (refine ⟨?_, ?_, ?_, ?_⟩ <;> ((repeat (with_reducible refine cell_set_ne (by omega) ?_)); with_reducible first | exact b0 | exact b1 | exact b2 | exact b3)) | go_keep)
    (first | (go_at_call 45; refine HM9.out.mono ?_; rintro e w4 ⟨uo, u, uc, U, vo, v, vc, V, rfl, ⟨hu, hv⟩, hM⟩; have hs4 := hM.gr.size; have gx4 := gxd.grown hM.gr (by simp; omega); have hx4 := hxd.grown hM.gr (by simp; omega); have b0 : w4.cell? ⟨gb, 0, none⟩ = some (.int .i64 p) := gx4.cell (j := 0) (by omega); have b1 : w4.cell? ⟨gb, 1, none⟩ = some (.slice go k gc) := gx4.cell (j := 1) (by omega); have b2 : w4.cell? ⟨hb, 0, none⟩ = some (.slice po m pc) := hx4.cell (j := 0) (by omega); have b3 : w4.cell? ⟨hb, 1, none⟩ = some (.slice eo q ec) := hx4.cell (j := 1) (by omega); have rx0' := rx0.grown hM.gr (by simp; omega); have rx1' := rx1.grown hM.gr (by simp; omega); have r0 : w4.cell? ⟨w.heap.size, 0, none⟩ = some (.slice none 0 0) := rx0'.cell (j := 0) (by omega); have r1 : w4.cell? ⟨w.heap.size, 1, none⟩ = some (.slice none 0 0) := rx0'.cell (j := 1) (by omega); have r2 : w4.cell? ⟨w.heap.size + 1, 0, none⟩ = some (.slice none 0 0) := rx1'.cell (j := 0) (by omega); have r3 : w4.cell? ⟨w.heap.size + 1, 1, none⟩ = some (.slice none 0 0) := rx1'.cell (j := 1) (by omega); have z0 := rx0'.frozen 0; have z1 := rx0'.frozen 1; have z2 := rx1'.frozen 0; have z3 := rx1'.frozen 1; have hlr := rx1'.lt))
  clear HM9
  replace hDd := hDd.met hM (by omega) (by omega)
  replace rx0 := rx0.grown hM.gr (by simp; omega)
  replace rx1 := rx1.grown hM.gr (by simp; omega)
  replace hB0 := hB0.trans (gr_below hM.gr (by omega) (by omega))
  clear gxd hxd gx4 hx4 b0 b1 b2 b3 g0 g1 h0 h1
  have r0 : w4.cell? ⟨w.heap.size, 0, none⟩ = some (.slice none 0 0) := rx0.cell (j := 0) (by omega)
  have z0 := rx0.frozen 0
  have r1 : w4.cell? ⟨w.heap.size, 1, none⟩ = some (.slice none 0 0) := rx0.cell (j := 1) (by omega)
  have z1 := rx0.frozen 1
  have r2 : w4.cell? ⟨w.heap.size + 1, 0, none⟩ = some (.slice none 0 0) := rx1.cell (j := 0) (by omega)
  have z2 := rx1.frozen 0
  have r3 : w4.cell? ⟨w.heap.size + 1, 1, none⟩ = some (.slice none 0 0) := rx1.cell (j := 1) (by omega)
  have z3 := rx1.frozen 1
  have hlr := rx1.lt
  go_wp2
  have hO := ((((((((hDd).other (gr_setCell _ w.heap.size 0 (.slice po m pc)) (by omega))).other (gr_setCell _ w.heap.size 1 (.slice eo q ec)) (by omega))).other (gr_setCell _ (w.heap.size + 1) 0 (.slice uo u uc)) (by omega))).other (gr_setCell _ (w.heap.size + 1) 1 (.slice vo v vc)) (by omega))
  have hBX : Below w.heap.size w ((((w4.setCell ⟨w.heap.size, 0, none⟩ (.slice po m pc)).setCell ⟨w.heap.size, 1, none⟩ (.slice eo q ec)).setCell ⟨w.heap.size + 1, 0, none⟩ (.slice uo u uc)).setCell ⟨w.heap.size + 1, 1, none⟩ (.slice vo v vc)) := (ret_below (ret_below hB0 (by omega) (.slice po m pc) (.slice eo q ec)) (by omega) (.slice uo u uc) (.slice vo v vc))
  have d0 : ((((w4.setCell ⟨w.heap.size, 0, none⟩ (.slice po m pc)).setCell ⟨w.heap.size, 1, none⟩ (.slice eo q ec)).setCell ⟨w.heap.size + 1, 0, none⟩ (.slice uo u uc)).setCell ⟨w.heap.size + 1, 1, none⟩ (.slice vo v vc)).cell? ⟨w.heap.size, 0, none⟩ = some (.slice po m pc) := by simp [go_sem, r0, r1, r2, r3]
  have d1 : ((((w4.setCell ⟨w.heap.size, 0, none⟩ (.slice po m pc)).setCell ⟨w.heap.size, 1, none⟩ (.slice eo q ec)).setCell ⟨w.heap.size + 1, 0, none⟩ (.slice uo u uc)).setCell ⟨w.heap.size + 1, 1, none⟩ (.slice vo v vc)).cell? ⟨w.heap.size, 1, none⟩ = some (.slice eo q ec) := by simp [go_sem, r0, r1, r2, r3]
  have d2 : ((((w4.setCell ⟨w.heap.size, 0, none⟩ (.slice po m pc)).setCell ⟨w.heap.size, 1, none⟩ (.slice eo q ec)).setCell ⟨w.heap.size + 1, 0, none⟩ (.slice uo u uc)).setCell ⟨w.heap.size + 1, 1, none⟩ (.slice vo v vc)).cell? ⟨w.heap.size + 1, 0, none⟩ = some (.slice uo u uc) := by simp [go_sem, r0, r1, r2, r3]
  have d3 : ((((w4.setCell ⟨w.heap.size, 0, none⟩ (.slice po m pc)).setCell ⟨w.heap.size, 1, none⟩ (.slice eo q ec)).setCell ⟨w.heap.size + 1, 0, none⟩ (.slice uo u uc)).setCell ⟨w.heap.size + 1, 1, none⟩ (.slice vo v vc)).cell? ⟨w.heap.size + 1, 1, none⟩ = some (.slice vo v vc) := by simp [go_sem, r0, r1, r2, r3]
  generalize ((((w4.setCell ⟨w.heap.size, 0, none⟩ (.slice po m pc)).setCell ⟨w.heap.size, 1, none⟩ (.slice eo q ec)).setCell ⟨w.heap.size + 1, 0, none⟩ (.slice uo u uc)).setCell ⟨w.heap.size + 1, 1, none⟩ (.slice vo v vc)) = WX at hO hBX d0 d1 d2 d3 ⊢
  clear r0 z0 r1 z1 r2 z2 r3 z3
  simp [bodyPost, results, Tryz.results15, go_sem, d0, d1, d2, d3]
  exact ⟨go, k, gc, po, m, pc, P, eo, q, ec, L, H, uo, u, uc, U, vo, v, vc, V, rfl, by omega, hO.from (by omega), hBX⟩

set_option maxRecDepth 100000 in
set_option maxHeartbeats 4000000 in
theorem drawRecustomize_any (ao : Option Addr) (n cap : Nat) (hn : n ≤ 4096) (w : World) (hr : ByRow w w.heap.size ao n) :
    Calls Tryz.prog 18 #[.slice ao n cap] w fun e w' => DrawnRC w e w' := by
  have hal0 := (Below.refl _ w).alloc (Nat.le_refl _) (.cells #[.int .i64 0, .slice none 0 0] 26)
  have hal1 := (Below.refl _ (w.alloc (.cells #[.int .i64 0, .slice none 0 0] 26))).alloc (Nat.le_refl _) (.cells #[.slice none 0 0, .slice none 0 0] 30)
  have hal2 := (Below.refl _ ((w.alloc (.cells #[.int .i64 0, .slice none 0 0] 26)).alloc (.cells #[.slice none 0 0, .slice none 0 0] 30))).alloc (Nat.le_refl _) (.cells #[.slice none 0 0, .slice none 0 0] 34)
  have hB0 := below_next (below_next (hal0) (Nat.le_refl _) hal1) (Nat.le_refl _) hal2
  have rx0 := (((gr_new (w) 0 (.slice none 0 0)).next hal1).next hal2)
  have rx1 := ((hi2_new ((w.alloc (.cells #[.int .i64 0, .slice none 0 0] 26))) (.slice none 0 0) (.slice none 0 0)).next hal2)
  have rx2 := (me2_new (((w.alloc (.cells #[.int .i64 0, .slice none 0 0] 26)).alloc (.cells #[.slice none 0 0, .slice none 0 0] 30))) (.slice none 0 0) (.slice none 0 0))
  have hz0 : (((w.alloc (.cells #[.int .i64 0, .slice none 0 0] 26)).alloc (.cells #[.slice none 0 0, .slice none 0 0] 30)).alloc (.cells #[.slice none 0 0, .slice none 0 0] 34)).heap.size = w.heap.size + 3 := by simp
  go_enter Tryz.func18, Tryz.ntmps18
  go_wp2_with fail
  generalize (((w.alloc (.cells #[.int .i64 0, .slice none 0 0] 26)).alloc (.cells #[.slice none 0 0, .slice none 0 0] 30)).alloc (.cells #[.slice none 0 0, .slice none 0 0] 34)) = W0 at hB0 rx0 rx1 rx2 hz0 ⊢
  simp only [World.size_alloc] at rx0 rx1 rx2
  clear hal0 hal1 hal2
  refine (l1New_any ao n cap hn _ (hr.up hB0)).mono ?_
  rintro e w1 ⟨c, rfl, hC1, hb1⟩
  have hcg := hC1.ge
  have hcl := hC1.lt
  have hs1 := hb1.size
  replace rx0 := rx0.next hb1
  replace rx1 := rx1.next hb1
  replace rx2 := rx2.next hb1
  replace hB0 := below_next hB0 (Nat.le_refl _) hb1
  clear hb1
  go_wp2_with fail
  refine (l5DrawAny_any _ c ao n cap _ hC1).mono ?_
  rintro e w2 ⟨p, go, k, gc, po, m, pc, P, eo, q, ec, L, H, rfl, ⟨hk, hm, hq, hec⟩, hR⟩
  have hs2 := hR.gr.size
  replace rx0 := rx0.grown hR.gr (by simp; omega)
  replace rx1 := rx1.grown hR.gr (by simp; omega)
  replace rx2 := rx2.grown hR.gr (by simp; omega)
  replace hB0 := hB0.trans (gr_below hR.gr (by omega) (by omega))
  have ha1 := (Below.refl w2.heap.size w2).alloc (Nat.le_refl _) (.cells #[.int .i64 p, .slice go k gc] 26)
  have ha2 := (Below.refl _ (w2.alloc (.cells #[.int .i64 p, .slice go k gc] 26))).alloc (Nat.le_refl _) (.cells #[.slice po m pc, .slice eo q ec] 30)
  have haa := below_next ha1 (Nat.le_refl _) ha2
  replace rx0 := rx0.next haa
  replace rx1 := rx1.next haa
  replace rx2 := rx2.next haa
  have gx := (gr_new w2 p (.slice go k gc)).next ha2
  have hx := hi2_new (w2.alloc (.cells #[.int .i64 p, .slice go k gc] 26)) (.slice po m pc) (.slice eo q ec)
  simp only [World.size_alloc] at hx
  have hC2 := hR.cur.next haa
  have hD := hR.rd.next haa
  have hsz : ((w2.alloc (.cells #[.int .i64 p, .slice go k gc] 26)).alloc (.cells #[.slice po m pc, .slice eo q ec] 30)).heap.size = w2.heap.size + 2 := by simp
  have hszB := hB0.size
  replace hB0 := hB0.trans (haa.mono hszB)
  clear ha1 ha2 haa hR
  go_wp2_with fail
  generalize ((w2.alloc (.cells #[.int .i64 p, .slice go k gc] 26)).alloc (.cells #[.slice po m pc, .slice eo q ec] 30)) = W3 at gx hx hC2 hD hsz hB0 rx0 rx1 rx2 ⊢
  obtain ⟨gb, hgb⟩ : ∃ gb, w2.heap.size = gb := ⟨_, rfl⟩
  obtain ⟨hb, hhb⟩ : ∃ hb, gb + 1 = hb := ⟨_, rfl⟩
  simp only [hgb] at gx hx hsz hs2 ⊢
  simp only [hhb] at hx ⊢
  obtain ⟨F, T, G, hrow, hwf, hap⟩ := hD.arcs.apart (c := c) (by omega)
  have g0 : W3.cell? ⟨gb, 0, none⟩ = some (.int .i64 p) := gx.cell (j := 0) (by omega)
  have g1 : W3.cell? ⟨gb, 1, none⟩ = some (.slice go k gc) := gx.cell (j := 1) (by omega)
  have h0 : W3.cell? ⟨hb, 0, none⟩ = some (.slice po m pc) := hx.cell (j := 0) (by omega)
  have h1 : W3.cell? ⟨hb, 1, none⟩ = some (.slice eo q ec) := hx.cell (j := 1) (by omega)
  go_wp2_with fail
  refine (l5DrawMetric_any _ c ao n cap p go k gc F T G po m pc P eo q ec L H hk hm hq _ hC2 hrow hD.ord hD.edg).mono ?_
  rintro e w4 ⟨uo, u, uc, U, vo, v, vc, V, rfl, ⟨hu, hv⟩, hM⟩
  have hs4 := hM.gr.size
  have hC4 := hM.cur
  replace hD := hD.met hM (by omega) (by omega)
  replace rx0 := rx0.grown hM.gr (by simp; omega)
  replace rx1 := rx1.grown hM.gr (by simp; omega)
  replace rx2 := rx2.grown hM.gr (by simp; omega)
  replace gx := gx.grown hM.gr (by simp; omega)
  replace hx := hx.grown hM.gr (by simp; omega)
  replace hB0 := hB0.trans (gr_below hM.gr (by omega) (by omega))
  have ha := (Below.refl w4.heap.size w4).alloc (Nat.le_refl _) (.cells #[.slice uo u uc, .slice vo v vc] 34)
  have mx := me2_new w4 (.slice uo u uc) (.slice vo v vc)
  replace rx0 := rx0.next ha
  replace rx1 := rx1.next ha
  replace rx2 := rx2.next ha
  replace gx := gx.next ha
  replace hx := hx.next ha
  replace hD := hD.next ha
  replace hC4 := hC4.next ha
  have hsz5 : (w4.alloc (.cells #[.slice uo u uc, .slice vo v vc] 34)).heap.size = w4.heap.size + 1 := by simp
  have hszB5 := hB0.size
  replace hB0 := hB0.trans (ha.mono hszB5)
  clear ha g0 g1 h0 h1 hM hrow hwf hap hC2
  go_wp2_with fail
  generalize (w4.alloc (.cells #[.slice uo u uc, .slice vo v vc] 34)) = W5 at mx gx hx hC4 hD hsz5 hB0 rx0 rx1 rx2 ⊢
  obtain ⟨mb, hmb⟩ : ∃ mb, w4.heap.size = mb := ⟨_, rfl⟩
  simp only [hmb] at mx hsz5 hs4 hszB5 ⊢
  have hDd := hD.next (Below.refl W5.heap.size W5).drew
  have hCd := hC4.next (Below.refl W5.heap.size W5).drew
  have hBd := hB0.drew
  have gxd := gx.next (Below.refl W5.heap.size W5).drew
  have hxd := hx.next (Below.refl W5.heap.size W5).drew
  have mxd := mx.next (Below.refl W5.heap.size W5).drew
  have rx0d := rx0.next (Below.refl W5.heap.size W5).drew
  have rx1d := rx1.next (Below.refl W5.heap.size W5).drew
  have rx2d := rx2.next (Below.refl W5.heap.size W5).drew
  clear hD hC4 hB0 gx hx mx rx0 rx1 rx2
  have hB0 := hBd
  have rx0 := rx0d
  have rx1 := rx1d
  have rx2 := rx2d
  clear hBd rx0d rx1d rx2d
  obtain ⟨F, T, G, hrow, hwf, hap⟩ := hDd.arcs.apart (c := c) (by omega)
  have g0 : W5.drew.cell? ⟨gb, 0, none⟩ = some (.int .i64 p) := gxd.cell (j := 0) (by omega)
  have g1 : W5.drew.cell? ⟨gb, 1, none⟩ = some (.slice go k gc) := gxd.cell (j := 1) (by omega)
  have h0 : W5.drew.cell? ⟨hb, 0, none⟩ = some (.slice po m pc) := hxd.cell (j := 0) (by omega)
  have h1 : W5.drew.cell? ⟨hb, 1, none⟩ = some (.slice eo q ec) := hxd.cell (j := 1) (by omega)
  have m0 : W5.drew.cell? ⟨mb, 0, none⟩ = some (.slice uo u uc) := mxd.cell (j := 0) (by omega)
  have m1 : W5.drew.cell? ⟨mb, 1, none⟩ = some (.slice vo v vc) := mxd.cell (j := 1) (by omega)
  have hsd : W5.drew.heap.size = mb + 1 := hsz5
  have HA9 : Hid (Calls Tryz.prog 56 #[.pointer (some ⟨c, 0, none⟩), .agg #[.int .i64 p, .slice go k gc]] W5.drew fun e w' => ∃ (xo : Option Addr) (m xc : Nat), e = .returned (.slice xo m xc) ∧ m ≤ 4 ∧ AOwnE w' W5.drew.heap.size xo m xc ∧ CurAt w' _ c ao n cap ∧ W5.drew.grownBy w' (some c)) := l1DrawArcs_any _ c ao n cap p go k gc F T G hk hwf W5.drew hCd hrow hap
  go_region_held3 (fun w' => w'.cell? ⟨gb, 0, none⟩ = some (.int .i64 p) ∧ w'.cell? ⟨gb, 1, none⟩ = some (.slice go k gc) ∧ w'.cell? ⟨hb, 0, none⟩ = some (.slice po m pc) ∧ w'.cell? ⟨hb, 1, none⟩ = some (.slice eo q ec) ∧ w'.cell? ⟨mb, 0, none⟩ = some (.slice uo u uc) ∧ w'.cell? ⟨mb, 1, none⟩ = some (.slice vo v vc))
    (first | (refine ⟨?_, ?_, ?_, ?_, ?_, ?_⟩ <;> ((repeat (with_reducible refine cell_set_ne (by omega) ?_)); with_reducible first | exact b0 | exact b1 | exact b2 | exact b3 | exact b4 | exact b5)) | go_keep)
    (first | (go_at_call 56; refine HA9.out.mono ?_; rintro e w6 ⟨xo, x, xc, rfl, hx4', hX, hC6, hg6⟩; have hs6 := hg6.size; have gx4 := gxd.grown hg6 (by simp; omega); have hx4 := hxd.grown hg6 (by simp; omega); have mx4 := mxd.grown hg6 (by simp; omega); have b0 : w6.cell? ⟨gb, 0, none⟩ = some (.int .i64 p) := gx4.cell (j := 0) (by omega); have b1 : w6.cell? ⟨gb, 1, none⟩ = some (.slice go k gc) := gx4.cell (j := 1) (by omega); have b2 : w6.cell? ⟨hb, 0, none⟩ = some (.slice po m pc) := hx4.cell (j := 0) (by omega); have b3 : w6.cell? ⟨hb, 1, none⟩ = some (.slice eo q ec) := hx4.cell (j := 1) (by omega); have b4 : w6.cell? ⟨mb, 0, none⟩ = some (.slice uo u uc) := mx4.cell (j := 0) (by omega); have b5 : w6.cell? ⟨mb, 1, none⟩ = some (.slice vo v vc) := mx4.cell (j := 1) (by omega); have rx0' := rx0.grown hg6 (by simp; omega); have rx1' := rx1.grown hg6 (by simp; omega); have rx2' := rx2.grown hg6 (by simp; omega); have r0 : w6.cell? ⟨w.heap.size, 0, none⟩ = some (.int .i64 0) := rx0'.cell (j := 0) (by omega); have r1 : w6.cell? ⟨w.heap.size, 1, none⟩ = some (.slice none 0 0) := rx0'.cell (j := 1) (by omega); have r2 : w6.cell? ⟨w.heap.size + 1, 0, none⟩ = some (.slice none 0 0) := rx1'.cell (j := 0) (by omega); have r3 : w6.cell? ⟨w.heap.size + 1, 1, none⟩ = some (.slice none 0 0) := rx1'.cell (j := 1) (by omega); have r4 : w6.cell? ⟨w.heap.size + 1 + 1, 0, none⟩ = some (.slice none 0 0) := rx2'.cell (j := 0) (by omega); have r5 : w6.cell? ⟨w.heap.size + 1 + 1, 1, none⟩ = some (.slice none 0 0) := rx2'.cell (j := 1) (by omega); have z0 := rx0'.frozen 0; have z1 := rx0'.frozen 1; have z2 := rx1'.frozen 0; have z3 := rx1'.frozen 1; have z4 := rx2'.frozen 0; have z5 := rx2'.frozen 1; have hlr := rx2'.lt))
  clear HA9
  replace hDd := hDd.other hg6 (by omega)
  replace rx0 := rx0.grown hg6 (by simp; omega)
  replace rx1 := rx1.grown hg6 (by simp; omega)
  replace rx2 := rx2.grown hg6 (by simp; omega)
  replace hB0 := hB0.trans (gr_below hg6 (by omega) (by omega))
  clear gxd hxd mxd gx4 hx4 mx4 b0 b1 b2 b3 b4 b5 g0 g1 h0 h1 m0 m1
  have r0 : w6.cell? ⟨w.heap.size, 0, none⟩ = some (.int .i64 0) := rx0.cell (j := 0) (by omega)
  have z0 := rx0.frozen 0
  have r1 : w6.cell? ⟨w.heap.size, 1, none⟩ = some (.slice none 0 0) := rx0.cell (j := 1) (by omega)
  have z1 := rx0.frozen 1
  have r2 : w6.cell? ⟨w.heap.size + 1, 0, none⟩ = some (.slice none 0 0) := rx1.cell (j := 0) (by omega)
  have z2 := rx1.frozen 0
  have r3 : w6.cell? ⟨w.heap.size + 1, 1, none⟩ = some (.slice none 0 0) := rx1.cell (j := 1) (by omega)
  have z3 := rx1.frozen 1
  have r4 : w6.cell? ⟨w.heap.size + 1 + 1, 0, none⟩ = some (.slice none 0 0) := rx2.cell (j := 0) (by omega)
  have z4 := rx2.frozen 0
  have r5 : w6.cell? ⟨w.heap.size + 1 + 1, 1, none⟩ = some (.slice none 0 0) := rx2.cell (j := 1) (by omega)
  have z5 := rx2.frozen 1
  have hlr := rx2.lt
  go_wp2
  have hO := ((((((((((((hDd).other (gr_setCell _ w.heap.size 0 (.int .i64 p)) (by omega))).other (gr_setCell _ w.heap.size 1 (.slice go k gc)) (by omega))).other (gr_setCell _ (w.heap.size + 1) 0 (.slice po m pc)) (by omega))).other (gr_setCell _ (w.heap.size + 1) 1 (.slice eo q ec)) (by omega))).other (gr_setCell _ (w.heap.size + 1 + 1) 0 (.slice uo u uc)) (by omega))).other (gr_setCell _ (w.heap.size + 1 + 1) 1 (.slice vo v vc)) (by omega))
  have hX9 := ((((((((((((hX).grown (gr_setCell _ w.heap.size 0 (.int .i64 p)) (by omega))).grown (gr_setCell _ w.heap.size 1 (.slice go k gc)) (by omega))).grown (gr_setCell _ (w.heap.size + 1) 0 (.slice po m pc)) (by omega))).grown (gr_setCell _ (w.heap.size + 1) 1 (.slice eo q ec)) (by omega))).grown (gr_setCell _ (w.heap.size + 1 + 1) 0 (.slice uo u uc)) (by omega))).grown (gr_setCell _ (w.heap.size + 1 + 1) 1 (.slice vo v vc)) (by omega))
  have hBX : Below w.heap.size w ((((((w6.setCell ⟨w.heap.size, 0, none⟩ (.int .i64 p)).setCell ⟨w.heap.size, 1, none⟩ (.slice go k gc)).setCell ⟨w.heap.size + 1, 0, none⟩ (.slice po m pc)).setCell ⟨w.heap.size + 1, 1, none⟩ (.slice eo q ec)).setCell ⟨w.heap.size + 1 + 1, 0, none⟩ (.slice uo u uc)).setCell ⟨w.heap.size + 1 + 1, 1, none⟩ (.slice vo v vc)) := (ret_below (ret_below (ret_below hB0 (by omega) (.int .i64 p) (.slice go k gc)) (by omega) (.slice po m pc) (.slice eo q ec)) (by omega) (.slice uo u uc) (.slice vo v vc))
  have d0 : ((((((w6.setCell ⟨w.heap.size, 0, none⟩ (.int .i64 p)).setCell ⟨w.heap.size, 1, none⟩ (.slice go k gc)).setCell ⟨w.heap.size + 1, 0, none⟩ (.slice po m pc)).setCell ⟨w.heap.size + 1, 1, none⟩ (.slice eo q ec)).setCell ⟨w.heap.size + 1 + 1, 0, none⟩ (.slice uo u uc)).setCell ⟨w.heap.size + 1 + 1, 1, none⟩ (.slice vo v vc)).cell? ⟨w.heap.size, 0, none⟩ = some (.int .i64 p) := by simp [go_sem, r0, r1, r2, r3, r4, r5]
  have d1 : ((((((w6.setCell ⟨w.heap.size, 0, none⟩ (.int .i64 p)).setCell ⟨w.heap.size, 1, none⟩ (.slice go k gc)).setCell ⟨w.heap.size + 1, 0, none⟩ (.slice po m pc)).setCell ⟨w.heap.size + 1, 1, none⟩ (.slice eo q ec)).setCell ⟨w.heap.size + 1 + 1, 0, none⟩ (.slice uo u uc)).setCell ⟨w.heap.size + 1 + 1, 1, none⟩ (.slice vo v vc)).cell? ⟨w.heap.size, 1, none⟩ = some (.slice go k gc) := by simp [go_sem, r0, r1, r2, r3, r4, r5]
  have d2 : ((((((w6.setCell ⟨w.heap.size, 0, none⟩ (.int .i64 p)).setCell ⟨w.heap.size, 1, none⟩ (.slice go k gc)).setCell ⟨w.heap.size + 1, 0, none⟩ (.slice po m pc)).setCell ⟨w.heap.size + 1, 1, none⟩ (.slice eo q ec)).setCell ⟨w.heap.size + 1 + 1, 0, none⟩ (.slice uo u uc)).setCell ⟨w.heap.size + 1 + 1, 1, none⟩ (.slice vo v vc)).cell? ⟨w.heap.size + 1, 0, none⟩ = some (.slice po m pc) := by simp [go_sem, r0, r1, r2, r3, r4, r5]
  have d3 : ((((((w6.setCell ⟨w.heap.size, 0, none⟩ (.int .i64 p)).setCell ⟨w.heap.size, 1, none⟩ (.slice go k gc)).setCell ⟨w.heap.size + 1, 0, none⟩ (.slice po m pc)).setCell ⟨w.heap.size + 1, 1, none⟩ (.slice eo q ec)).setCell ⟨w.heap.size + 1 + 1, 0, none⟩ (.slice uo u uc)).setCell ⟨w.heap.size + 1 + 1, 1, none⟩ (.slice vo v vc)).cell? ⟨w.heap.size + 1, 1, none⟩ = some (.slice eo q ec) := by simp [go_sem, r0, r1, r2, r3, r4, r5]
  have d4 : ((((((w6.setCell ⟨w.heap.size, 0, none⟩ (.int .i64 p)).setCell ⟨w.heap.size, 1, none⟩ (.slice go k gc)).setCell ⟨w.heap.size + 1, 0, none⟩ (.slice po m pc)).setCell ⟨w.heap.size + 1, 1, none⟩ (.slice eo q ec)).setCell ⟨w.heap.size + 1 + 1, 0, none⟩ (.slice uo u uc)).setCell ⟨w.heap.size + 1 + 1, 1, none⟩ (.slice vo v vc)).cell? ⟨w.heap.size + 1 + 1, 0, none⟩ = some (.slice uo u uc) := by simp [go_sem, r0, r1, r2, r3, r4, r5]
  have d5 : ((((((w6.setCell ⟨w.heap.size, 0, none⟩ (.int .i64 p)).setCell ⟨w.heap.size, 1, none⟩ (.slice go k gc)).setCell ⟨w.heap.size + 1, 0, none⟩ (.slice po m pc)).setCell ⟨w.heap.size + 1, 1, none⟩ (.slice eo q ec)).setCell ⟨w.heap.size + 1 + 1, 0, none⟩ (.slice uo u uc)).setCell ⟨w.heap.size + 1 + 1, 1, none⟩ (.slice vo v vc)).cell? ⟨w.heap.size + 1 + 1, 1, none⟩ = some (.slice vo v vc) := by simp [go_sem, r0, r1, r2, r3, r4, r5]
  generalize ((((((w6.setCell ⟨w.heap.size, 0, none⟩ (.int .i64 p)).setCell ⟨w.heap.size, 1, none⟩ (.slice go k gc)).setCell ⟨w.heap.size + 1, 0, none⟩ (.slice po m pc)).setCell ⟨w.heap.size + 1, 1, none⟩ (.slice eo q ec)).setCell ⟨w.heap.size + 1 + 1, 0, none⟩ (.slice uo u uc)).setCell ⟨w.heap.size + 1 + 1, 1, none⟩ (.slice vo v vc)) = WX at hO hX9 hBX d0 d1 d2 d3 d4 d5 ⊢
  clear r0 z0 r1 z1 r2 z2 r3 z3 r4 z4 r5 z5
  simp [bodyPost, results, Tryz.results18, go_sem, d0, d1, d2, d3, d4, d5]
  exact ⟨p, go, k, gc, po, m, pc, P, eo, q, ec, L, H, uo, u, uc, U, vo, v, vc, V, xo, x, xc, rfl, by omega, hO.from (by omega), hX9.from (by omega), hBX⟩

end Go.Proofs.YteibbknpcgcjjabGreat
