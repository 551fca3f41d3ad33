/-
  The document's draw for Unpack.
-/
import Derived.Test.YteibbknpcgcjjabDrawRDP
import Derived.Test.YteibbknpcgcjjabDrawPlP
import Derived.Test.YteibbknpcgcjjabPack9
import Derived.Test.YteibbknpcgcjjabPack8
import Derived.Deep.RegionHeld3
set_option linter.unusedVariables false
set_option linter.unusedSimpArgs false
namespace Go.Proofs.Yteibbknpcgcjjab
open Go.RowKit Go.Maps Go.Deep Go.Joins
attribute [local go_sem ↓] Go.wp_at_zero Go.wp_at_succ

theorem cell_set_ne {W : World} {b b' i j : Nat} {v u : Value} (h : b' ≠ b) (hc : W.cell? ⟨b, i, none⟩ = some u) : (W.setCell ⟨b', j, none⟩ v).cell? ⟨b, i, none⟩ = some u := (gr_setCell W b' j v).cell hc (by simp; omega)
theorem ed2_new (w : World) (x y : Int) : VHas (w.alloc (.cells #[.int .i64 x, .int .i64 y] 38)) w.heap.size 38 2 (me2 (.int .i64 x) (.int .i64 y)) :=
  ⟨_, Go.Deep.blk_alloc_new _ _, by simp, fun j hj => by
    have : j = 0 ∨ j = 1 := by omega
    rcases this with rfl | rfl <;> rfl⟩
/-- What DrawUnpack answers. -/
def DrawnUN (w : World) (e : Ending) (w' : World) : Prop := ∃ (p : Int) (go : Option Addr) (k gc : Nat) (po : Option Addr) (m pc : Nat) (P : Nat → Int) (eo : Option Addr) (q ec : Nat) (L H : Nat → Int) (uo : Option Addr) (u uc : Nat) (U : Nat → Int) (vo : Option Addr) (v vc : Nat) (V : Nat → Int) (x y : Int) (up : Bool), e = .returned (.tuple #[.agg #[.int .i64 p, .slice go k gc], .agg #[.slice po m pc, .slice eo q ec], .agg #[.slice uo u uc, .slice vo v vc], .int .i64 x, .int .i64 y, .bool up]) ∧ (k ≤ 200 ∧ m ≤ 24 ∧ q ≤ 217 ∧ q ≤ ec ∧ u ≤ 1001 ∧ v ≤ 1001) ∧ ((Lit.int .i64 x).wf = true ∧ (Lit.int .i64 y).wf = true) ∧ RD w.heap.size go k gc po m P eo q L H uo u U vo v V w' ∧ Below w.heap.size w w'

set_option pp.deepTerms true in
set_option pp.maxSteps 1000000 in
set_option maxRecDepth 100000 in
set_option maxHeartbeats 4000000 in
theorem drawUnpack_any (ao : Option Addr) (n cap : Nat) (hn : n ≤ 4096) (w : World) (hr : ByRow w w.heap.size ao n) :
    Calls Try.prog 26 #[.slice ao n cap] w fun e w' => DrawnUN w e w' := by
  have hal0 := (Below.refl _ w).alloc (Nat.le_refl _) (.cells #[.int .i64 0, .slice none 0 0] 32)
  have hal1 := (Below.refl _ (w.alloc (.cells #[.int .i64 0, .slice none 0 0] 32))).alloc (Nat.le_refl _) (.cells #[.slice none 0 0, .slice none 0 0] 40)
  have hal2 := (Below.refl _ ((w.alloc (.cells #[.int .i64 0, .slice none 0 0] 32)).alloc (.cells #[.slice none 0 0, .slice none 0 0] 40))).alloc (Nat.le_refl _) (.cells #[.slice none 0 0, .slice none 0 0] 42)
  have hB0 := below_next (below_next (hal0) (Nat.le_refl _) hal1) (Nat.le_refl _) hal2
  have rx0 := (((gr_new (w) 0 (.slice none 0 0)).next hal1).next hal2)
  have rx1 := ((hi2_new ((w.alloc (.cells #[.int .i64 0, .slice none 0 0] 32))) (.slice none 0 0) (.slice none 0 0)).next hal2)
  have rx2 := (me2_new (((w.alloc (.cells #[.int .i64 0, .slice none 0 0] 32)).alloc (.cells #[.slice none 0 0, .slice none 0 0] 40))) (.slice none 0 0) (.slice none 0 0))
  have hz0 : (((w.alloc (.cells #[.int .i64 0, .slice none 0 0] 32)).alloc (.cells #[.slice none 0 0, .slice none 0 0] 40)).alloc (.cells #[.slice none 0 0, .slice none 0 0] 42)).heap.size = w.heap.size + 3 := by simp
  go_enter Try.func26, Try.ntmps26
  go_wp2_with fail
  generalize (((w.alloc (.cells #[.int .i64 0, .slice none 0 0] 32)).alloc (.cells #[.slice none 0 0, .slice none 0 0] 40)).alloc (.cells #[.slice none 0 0, .slice none 0 0] 42)) = W0 at hB0 rx0 rx1 rx2 hz0 ⊢
  simp only [World.size_alloc] at rx0 rx1 rx2
  clear hal0 hal1 hal2
  refine (l1New_any ao n cap hn _ (hr.up hB0)).mono ?_
  rintro e w1 ⟨c, rfl, hC1, hb1⟩
  have hcg := hC1.ge
  have hcl := hC1.lt
  have hs1 := hb1.size
  replace rx0 := rx0.next hb1
  replace rx1 := rx1.next hb1
  replace rx2 := rx2.next hb1
  replace hB0 := below_next hB0 (Nat.le_refl _) hb1
  clear hb1
  go_wp2_with fail
  refine (l5DrawAny_any _ c ao n cap _ hC1).mono ?_
  rintro e w2 ⟨p, go, k, gc, po, m, pc, P, eo, q, ec, L, H, rfl, ⟨hk, hm, hq, hec⟩, hR⟩
  have hs2 := hR.gr.size
  replace rx0 := rx0.grown hR.gr (by simp; omega)
  replace rx1 := rx1.grown hR.gr (by simp; omega)
  replace rx2 := rx2.grown hR.gr (by simp; omega)
  replace hB0 := hB0.trans (gr_below hR.gr (by omega) (by omega))
  have ha1 := (Below.refl w2.heap.size w2).alloc (Nat.le_refl _) (.cells #[.int .i64 p, .slice go k gc] 32)
  have ha2 := (Below.refl _ (w2.alloc (.cells #[.int .i64 p, .slice go k gc] 32))).alloc (Nat.le_refl _) (.cells #[.slice po m pc, .slice eo q ec] 40)
  have haa := below_next ha1 (Nat.le_refl _) ha2
  replace rx0 := rx0.next haa
  replace rx1 := rx1.next haa
  replace rx2 := rx2.next haa
  have gx := (gr_new w2 p (.slice go k gc)).next ha2
  have hx := hi2_new (w2.alloc (.cells #[.int .i64 p, .slice go k gc] 32)) (.slice po m pc) (.slice eo q ec)
  simp only [World.size_alloc] at hx
  have hC2 := hR.cur.next haa
  have hD := hR.rd.next haa
  have hsz : ((w2.alloc (.cells #[.int .i64 p, .slice go k gc] 32)).alloc (.cells #[.slice po m pc, .slice eo q ec] 40)).heap.size = w2.heap.size + 2 := by simp
  have hszB := hB0.size
  replace hB0 := hB0.trans (haa.mono hszB)
  clear ha1 ha2 haa hR
  go_wp2_with fail
  generalize ((w2.alloc (.cells #[.int .i64 p, .slice go k gc] 32)).alloc (.cells #[.slice po m pc, .slice eo q ec] 40)) = W3 at gx hx hC2 hD hsz hB0 rx0 rx1 rx2 ⊢
  obtain ⟨gb, hgb⟩ : ∃ gb, w2.heap.size = gb := ⟨_, rfl⟩
  obtain ⟨hb, hhb⟩ : ∃ hb, gb + 1 = hb := ⟨_, rfl⟩
  simp only [hgb] at gx hx hsz hs2 ⊢
  simp only [hhb] at hx ⊢
  obtain ⟨F, T, G, hrow, hwf, hap⟩ := hD.arcs.apart (c := c) (by omega)
  have g0 : W3.cell? ⟨gb, 0, none⟩ = some (.int .i64 p) := gx.cell (j := 0) (by omega)
  have g1 : W3.cell? ⟨gb, 1, none⟩ = some (.slice go k gc) := gx.cell (j := 1) (by omega)
  have h0 : W3.cell? ⟨hb, 0, none⟩ = some (.slice po m pc) := hx.cell (j := 0) (by omega)
  have h1 : W3.cell? ⟨hb, 1, none⟩ = some (.slice eo q ec) := hx.cell (j := 1) (by omega)
  go_wp2_with fail
  refine (l5DrawMetric_any _ c ao n cap p go k gc F T G po m pc P eo q ec L H hk hm hq _ hC2 hrow hD.ord hD.edg).mono ?_
  rintro e w4 ⟨uo, u, uc, U, vo, v, vc, V, rfl, ⟨hu, hv⟩, hM⟩
  have hs4 := hM.gr.size
  have hC4 := hM.cur
  replace hD := hD.met hM (by omega) (by omega)
  replace rx0 := rx0.grown hM.gr (by simp; omega)
  replace rx1 := rx1.grown hM.gr (by simp; omega)
  replace rx2 := rx2.grown hM.gr (by simp; omega)
  replace gx := gx.grown hM.gr (by simp; omega)
  replace hx := hx.grown hM.gr (by simp; omega)
  replace hB0 := hB0.trans (gr_below hM.gr (by omega) (by omega))
  have ha := (Below.refl w4.heap.size w4).alloc (Nat.le_refl _) (.cells #[.slice uo u uc, .slice vo v vc] 42)
  have mx := me2_new w4 (.slice uo u uc) (.slice vo v vc)
  replace rx0 := rx0.next ha
  replace rx1 := rx1.next ha
  replace rx2 := rx2.next ha
  replace gx := gx.next ha
  replace hx := hx.next ha
  replace hD := hD.next ha
  replace hC4 := hC4.next ha
  have hsz5 : (w4.alloc (.cells #[.slice uo u uc, .slice vo v vc] 42)).heap.size = w4.heap.size + 1 := by simp
  have hszB5 := hB0.size
  replace hB0 := hB0.trans (ha.mono hszB5)
  clear ha g0 g1 h0 h1 hM hrow hwf hap hC2
  go_wp2_with fail
  generalize (w4.alloc (.cells #[.slice uo u uc, .slice vo v vc] 42)) = W5 at mx gx hx hC4 hD hsz5 hB0 rx0 rx1 rx2 ⊢
  obtain ⟨mb, hmb⟩ : ∃ mb, w4.heap.size = mb := ⟨_, rfl⟩
  simp only [hmb] at mx hsz5 hs4 hszB5 ⊢
  refine (l1DrawPlace_wf _ c ao n cap _ hC4).mono ?_
  rintro e w6 ⟨x, rfl, wx, hCa, hga⟩
  have QX : Hid ((Lit.int .i64 x).wf = true) := wx
  clear wx
  have hs6 := hga.size
  have hC6 := hCa
  replace hD := hD.other hga (by omega)
  replace rx0 := rx0.grown hga (by simp; omega)
  replace rx1 := rx1.grown hga (by simp; omega)
  replace rx2 := rx2.grown hga (by simp; omega)
  replace gx := gx.grown hga (by simp; omega)
  replace hx := hx.grown hga (by simp; omega)
  replace mx := mx.grown hga (by simp; omega)
  replace hB0 := hB0.trans (gr_below hga (by omega) (by omega))
  clear hga hCa
  go_wp2_with fail
  refine (l1DrawPlace_wf _ c ao n cap _ hC6).mono ?_
  rintro e w7 ⟨y, rfl, wy, hCa, hga⟩
  have QY : Hid ((Lit.int .i64 y).wf = true) := wy
  clear wy
  have hs7 := hga.size
  have hC7 := hCa
  replace hD := hD.other hga (by omega)
  replace rx0 := rx0.grown hga (by simp; omega)
  replace rx1 := rx1.grown hga (by simp; omega)
  replace rx2 := rx2.grown hga (by simp; omega)
  replace gx := gx.grown hga (by simp; omega)
  replace hx := hx.grown hga (by simp; omega)
  replace mx := mx.grown hga (by simp; omega)
  replace hB0 := hB0.trans (gr_below hga (by omega) (by omega))
  clear hga hCa
  have hAp : Hid (RDA w7.heap.size go k gc po m eo q uo u vo v) := hD.apart (Nat.le_refl _)
  have hEl : Hid (∀ a, eo = some a → 0 < q → a.block < w7.heap.size) := fun a e h0 => by
    obtain ⟨b, o, e2, c0, _⟩ := hD.edg 0 h0
    rw [e] at e2
    cases e2
    exact lt_of_cell c0
  have ha := (Below.refl w7.heap.size w7).alloc (Nat.le_refl _) (.cells #[.int .i64 x, .int .i64 y] 38)
  have ex := ed2_new w7 x y
  replace rx0 := rx0.next ha
  replace rx1 := rx1.next ha
  replace rx2 := rx2.next ha
  replace gx := gx.next ha
  replace hx := hx.next ha
  replace mx := mx.next ha
  replace hD := hD.next ha
  replace hC7 := hC7.next ha
  have hszB7 := hB0.size
  replace hB0 := hB0.trans (ha.mono hszB7)
  have hsz8 : (w7.alloc (.cells #[.int .i64 x, .int .i64 y] 38)).heap.size = w7.heap.size + 1 := by simp
  clear ha
  have h1 : (w7.alloc (.cells #[.int .i64 x, .int .i64 y] 38)).cell? ⟨hb, 1, none⟩ = some (.slice eo q ec) := hx.cell (j := 1) (by omega)
  have hq0 : Hid (q = 0 ∨ 0 < q) := Nat.eq_zero_or_pos q
  rcases hq0.out with hq1 | hq1
  rotate_left
  · have hq2 : (0 : Int) < (q : Int) := by omega
    go_wp2_with fail
    generalize (w7.alloc (.cells #[.int .i64 x, .int .i64 y] 38)) = W8 at rx0 rx1 rx2 gx hx mx ex hD hC7 hB0 hsz8 h1 ⊢
    obtain ⟨eb, heb⟩ : ∃ eb, w7.heap.size = eb := ⟨_, rfl⟩
    simp only [heb] at ex hsz8 hs7 hszB7 ⊢
    refine (l1Once_any _ c ao n cap 6 (by omega) (by omega) _ hC7).mono ?_
    rintro e w9 ⟨b9, rfl, hCa, hga⟩
    clear h1
    have hs9 := hga.size
    have hC9 := hCa
    replace hD := hD.other hga (by omega)
    replace rx0 := rx0.grown hga (by simp; omega)
    replace rx1 := rx1.grown hga (by simp; omega)
    replace rx2 := rx2.grown hga (by simp; omega)
    replace gx := gx.grown hga (by simp; omega)
    replace hx := hx.grown hga (by simp; omega)
    replace mx := mx.grown hga (by simp; omega)
    replace ex := ex.grown hga (by simp; omega)
    replace hB0 := hB0.trans (gr_below hga (by omega) (by omega))
    clear hga hCa
    have h1 : w9.cell? ⟨hb, 1, none⟩ = some (.slice eo q ec) := hx.cell (j := 1) (by omega)
    cases b9
    · obtain ⟨b0', o0', e0', _⟩ := hD.edg 0 hq1
      subst e0'
      go_wp2_with fail
      have dr := (Below.refl w9.heap.size w9).drew
      clear h1
      have hszr := rx2.lt
      replace rx0 := rx0.next dr
      replace rx1 := rx1.next dr
      replace rx2 := rx2.next dr
      replace gx := gx.next dr
      replace hx := hx.next dr
      replace mx := mx.next dr
      replace ex := ex.next dr
      replace hD := hD.next dr
      replace hC9 := hC9.next dr
      replace hB0 := hB0.drew
      have hsdd : w9.drew.heap.size = w9.heap.size := rfl
      have h1 : w9.drew.cell? ⟨hb, 1, none⟩ = some (.slice (some ⟨b0', o0', none⟩) q ec) := hx.cell (j := 1) (by omega)
      have HA9 : Hid (Calls Try.prog 60 #[.pointer (some ⟨c, 0, none⟩), .int .i64 (q : Int)] w9.drew fun e w' => ∃ x : Nat, e = .returned (.int .i64 (x : Int)) ∧ (x : Int) < (q : Int) ∧ CurAt w' _ c ao n cap ∧ w9.drew.grownBy w' (some c)) := l1Below_any _ c ao n cap (q : Int) (by omega) (by omega) w9.drew hC9
      have k0 : ∀ j, j < q → w9.drew.cell? ⟨b0', o0' + j * 2, none⟩ = some (.int .i64 (L j)) := fun j hj => by
        obtain ⟨b1', o1', e1', k0, k1⟩ := hD.edg j hj
        cases e1'
        exact k0
      have k1 : ∀ j, j < q → w9.drew.cell? ⟨b0', o0' + j * 2 + 1, none⟩ = some (.int .i64 (H j)) := fun j hj => by
        obtain ⟨b1', o1', e1', k0, k1⟩ := hD.edg j hj
        cases e1'
        exact k1
      have hbe : eb ≠ b0' := by
        have := hEl.out _ rfl hq1
        rw [heb] at this
        simp only at this
        omega
      go_region_held3 (fun w' => w'.cell? ⟨hb, 1, none⟩ = some (.slice (some ⟨b0', o0', none⟩) q ec) ∧ (∀ j, j < q → w'.cell? ⟨b0', o0' + j * 2, none⟩ = some (.int .i64 (L j))) ∧ (∀ j, j < q → w'.cell? ⟨b0', o0' + j * 2 + 1, none⟩ = some (.int .i64 (H j))))
        (first | (refine ⟨?_, fun j hj => ?_, fun j hj => ?_⟩ <;> ((repeat (with_reducible refine cell_set_ne (by omega) ?_)); with_reducible first | exact h1z | exact k0z j hj | exact k1z j hj)) | (with_reducible exact ⟨h1, k0, k1⟩) | go_keep)
        (first | (go_at_call 60; refine HA9.out.mono ?_; rintro e wz ⟨xi, rfl, hxi, hCz, hgz⟩; have hsz := hgz.size; have hxz := hx.grown hgz (by simp; omega); have exz := ex.grown hgz (by simp; omega); have h1z : wz.cell? ⟨hb, 1, none⟩ = some (.slice (some ⟨b0', o0', none⟩) q ec) := hxz.cell (j := 1) (by omega); have hDz := hD.other hgz (by omega); have hxi' : xi < q := (by omega); have k0z : ∀ j, j < q → wz.cell? ⟨b0', o0' + j * 2, none⟩ = some (.int .i64 (L j)) := (fun j hj => by obtain ⟨b1', o1', e1', k0, k1⟩ := hDz.edg j hj; cases e1'; exact k0); have k1z : ∀ j, j < q → wz.cell? ⟨b0', o0' + j * 2 + 1, none⟩ = some (.int .i64 (H j)) := (fun j hj => by obtain ⟨b1', o1', e1', k0, k1⟩ := hDz.edg j hj; cases e1'; exact k1); have t0 : wz.cell? ⟨eb, 0, none⟩ = some (.int .i64 x) := exz.cell (j := 0) (by omega); have t1 : wz.cell? ⟨eb, 1, none⟩ = some (.int .i64 y) := exz.cell (j := 1) (by omega); have tz0 := exz.frozen 0; have tz1 := exz.frozen 1))
      clear k0 k1 h1 h1z k0z k1z t0 t1 tz0 tz1 hxz HA9
      have hAp' := hAp.out
      rw [heb] at hAp'
      have hwi := hD.ewf xi hxi'
      have g2 := gr_set2 wz eb (.int .i64 (L xi)) (.int .i64 (H xi))
      clear ex
      have ex := vh_set2 exz (.int .i64 (L xi)) (.int .i64 (H xi))
      replace hD := hDz.otherA hAp' g2
      have hCq := hCz.grown g2 (by omega) (by omega)
      replace gx := (gx.grown hgz (by simp; omega)).grown g2 (by simp; omega)
      replace hx := (hx.grown hgz (by simp; omega)).grown g2 (by simp; omega)
      replace mx := (mx.grown hgz (by simp; omega)).grown g2 (by simp; omega)
      replace rx0 := (rx0.grown hgz (by simp; omega)).grown g2 (by simp; omega)
      replace rx1 := (rx1.grown hgz (by simp; omega)).grown g2 (by simp; omega)
      replace rx2 := (rx2.grown hgz (by simp; omega)).grown g2 (by simp; omega)
      replace hB0 := hB0.trans (gr_below hgz (by omega) (by omega))
      replace hB0 := ret_below hB0 (s := eb) (by omega) (.int .i64 (L xi)) (.int .i64 (H xi))
      have hsq := g2.size
      clear g2 exz hCz hgz hDz hC9
      go_wp2_with fail
      generalize ((wz.setCell ⟨eb, 0, none⟩ (.int .i64 (L xi))).setCell ⟨eb, 1, none⟩ (.int .i64 (H xi))) = WQ at ex hD hCq gx hx mx rx0 rx1 rx2 hB0 hsq ⊢
      obtain ⟨x9, hx9⟩ : ∃ x9, L xi = x9 := ⟨_, rfl⟩
      obtain ⟨y9, hy9⟩ : ∃ y9, H xi = y9 := ⟨_, rfl⟩
      rw [hx9, hy9] at hwi
      simp only [hx9, hy9] at ex ⊢
      have hszr := rx2.lt
      replace rx0 := rx0.next (Below.refl WQ.heap.size WQ).drew
      replace rx1 := rx1.next (Below.refl WQ.heap.size WQ).drew
      replace rx2 := rx2.next (Below.refl WQ.heap.size WQ).drew
      replace gx := gx.next (Below.refl WQ.heap.size WQ).drew
      replace hx := hx.next (Below.refl WQ.heap.size WQ).drew
      replace mx := mx.next (Below.refl WQ.heap.size WQ).drew
      replace ex := ex.next (Below.refl WQ.heap.size WQ).drew
      replace hD := hD.next (Below.refl WQ.heap.size WQ).drew
      replace hCq := hCq.next (Below.refl WQ.heap.size WQ).drew
      replace hB0 := hB0.drew
      have hsdd : WQ.drew.heap.size = WQ.heap.size := rfl
      have a0 : WQ.drew.cell? ⟨gb, 0, none⟩ = some (.int .i64 p) := gx.cell (j := 0) (by omega)
      have a1 : WQ.drew.cell? ⟨gb, 1, none⟩ = some (.slice go k gc) := gx.cell (j := 1) (by omega)
      have a2 : WQ.drew.cell? ⟨hb, 0, none⟩ = some (.slice po m pc) := hx.cell (j := 0) (by omega)
      have a3 : WQ.drew.cell? ⟨hb, 1, none⟩ = some (.slice (some ⟨b0', o0', none⟩) q ec) := hx.cell (j := 1) (by omega)
      have a4 : WQ.drew.cell? ⟨mb, 0, none⟩ = some (.slice uo u uc) := mx.cell (j := 0) (by omega)
      have a5 : WQ.drew.cell? ⟨mb, 1, none⟩ = some (.slice vo v vc) := mx.cell (j := 1) (by omega)
      have a6 : WQ.drew.cell? ⟨eb, 0, none⟩ = some (.int .i64 x9) := ex.cell (j := 0) (by omega)
      have a7 : WQ.drew.cell? ⟨eb, 1, none⟩ = some (.int .i64 y9) := ex.cell (j := 1) (by omega)
      have HA9 : Hid (Calls Try.prog 54 #[.pointer (some ⟨c, 0, none⟩), .int .i64 2] WQ.drew fun e w' => ∃ b : Bool, e = .returned (.bool b) ∧ CurAt w' _ c ao n cap ∧ WQ.drew.grownBy w' (some c)) := l1Once_any _ c ao n cap 2 (by omega) (by omega) WQ.drew hCq
      go_region_held3 (fun w' => w'.cell? ⟨gb, 0, none⟩ = some (.int .i64 p) ∧ w'.cell? ⟨gb, 1, none⟩ = some (.slice go k gc) ∧ w'.cell? ⟨hb, 0, none⟩ = some (.slice po m pc) ∧ w'.cell? ⟨hb, 1, none⟩ = some (.slice (some ⟨b0', o0', none⟩) q ec) ∧ w'.cell? ⟨mb, 0, none⟩ = some (.slice uo u uc) ∧ w'.cell? ⟨mb, 1, none⟩ = some (.slice vo v vc) ∧ w'.cell? ⟨eb, 0, none⟩ = some (.int .i64 x9) ∧ w'.cell? ⟨eb, 1, none⟩ = some (.int .i64 y9))
        (first | (refine ⟨?_, ?_, ?_, ?_, ?_, ?_, ?_, ?_⟩ <;> ((repeat (with_reducible refine cell_set_ne (by omega) ?_)); with_reducible first | exact b0 | exact b1 | exact b2 | exact b3 | exact b4 | exact b5 | exact b6 | exact b7)) | go_keep)
        (first | (go_at_call 54; refine HA9.out.mono ?_; rintro e wz ⟨up, rfl, hCz, hgz⟩; have hsz := hgz.size; have gxz := gx.grown hgz (by simp; omega); have hxz := hx.grown hgz (by simp; omega); have mxz := mx.grown hgz (by simp; omega); have exz := ex.grown hgz (by simp; omega); have rx0z := rx0.grown hgz (by simp; omega); have rx1z := rx1.grown hgz (by simp; omega); have rx2z := rx2.grown hgz (by simp; omega); have b0 : wz.cell? ⟨gb, 0, none⟩ = some (.int .i64 p) := gxz.cell (j := 0) (by omega); have b1 : wz.cell? ⟨gb, 1, none⟩ = some (.slice go k gc) := gxz.cell (j := 1) (by omega); have b2 : wz.cell? ⟨hb, 0, none⟩ = some (.slice po m pc) := hxz.cell (j := 0) (by omega); have b3 : wz.cell? ⟨hb, 1, none⟩ = some (.slice (some ⟨b0', o0', none⟩) q ec) := hxz.cell (j := 1) (by omega); have b4 : wz.cell? ⟨mb, 0, none⟩ = some (.slice uo u uc) := mxz.cell (j := 0) (by omega); have b5 : wz.cell? ⟨mb, 1, none⟩ = some (.slice vo v vc) := mxz.cell (j := 1) (by omega); have b6 : wz.cell? ⟨eb, 0, none⟩ = some (.int .i64 x9) := exz.cell (j := 0) (by omega); have b7 : wz.cell? ⟨eb, 1, none⟩ = some (.int .i64 y9) := exz.cell (j := 1) (by omega); have r0 : wz.cell? ⟨w.heap.size, 0, none⟩ = some (.int .i64 0) := rx0z.cell (j := 0) (by omega); have z0 := rx0z.frozen 0; have r1 : wz.cell? ⟨w.heap.size, 1, none⟩ = some (.slice none 0 0) := rx0z.cell (j := 1) (by omega); have z1 := rx0z.frozen 1; have r2 : wz.cell? ⟨w.heap.size + 1, 0, none⟩ = some (.slice none 0 0) := rx1z.cell (j := 0) (by omega); have z2 := rx1z.frozen 0; have r3 : wz.cell? ⟨w.heap.size + 1, 1, none⟩ = some (.slice none 0 0) := rx1z.cell (j := 1) (by omega); have z3 := rx1z.frozen 1; have r4 : wz.cell? ⟨w.heap.size + 1 + 1, 0, none⟩ = some (.slice none 0 0) := rx2z.cell (j := 0) (by omega); have z4 := rx2z.frozen 0; have r5 : wz.cell? ⟨w.heap.size + 1 + 1, 1, none⟩ = some (.slice none 0 0) := rx2z.cell (j := 1) (by omega); have z5 := rx2z.frozen 1; have hlr := rx2z.lt))
      clear HA9
      replace hD := hD.other hgz (by omega)
      replace rx0 := rx0.grown hgz (by simp; omega)
      replace rx1 := rx1.grown hgz (by simp; omega)
      replace rx2 := rx2.grown hgz (by simp; omega)
      replace hB0 := hB0.trans (gr_below hgz (by omega) (by omega))
      clear gxz hxz mxz exz gx hx mx ex a0 b0 a1 b1 a2 b2 a3 b3 a4 b4 a5 b5 a6 b6 a7 b7
      clear r0 z0 r1 z1 r2 z2 r3 z3 r4 z4 r5 z5 hlr
      have r0 : wz.cell? ⟨w.heap.size, 0, none⟩ = some (.int .i64 0) := rx0.cell (j := 0) (by omega)
      have z0 := rx0.frozen 0
      have r1 : wz.cell? ⟨w.heap.size, 1, none⟩ = some (.slice none 0 0) := rx0.cell (j := 1) (by omega)
      have z1 := rx0.frozen 1
      have r2 : wz.cell? ⟨w.heap.size + 1, 0, none⟩ = some (.slice none 0 0) := rx1.cell (j := 0) (by omega)
      have z2 := rx1.frozen 0
      have r3 : wz.cell? ⟨w.heap.size + 1, 1, none⟩ = some (.slice none 0 0) := rx1.cell (j := 1) (by omega)
      have z3 := rx1.frozen 1
      have r4 : wz.cell? ⟨w.heap.size + 1 + 1, 0, none⟩ = some (.slice none 0 0) := rx2.cell (j := 0) (by omega)
      have z4 := rx2.frozen 0
      have r5 : wz.cell? ⟨w.heap.size + 1 + 1, 1, none⟩ = some (.slice none 0 0) := rx2.cell (j := 1) (by omega)
      have z5 := rx2.frozen 1
      have hlr := rx2.lt
      go_wp2
      have hO := ((((((((((((hD).other (gr_setCell _ w.heap.size 0 (.int .i64 p)) (by omega))).other (gr_setCell _ w.heap.size 1 (.slice go k gc)) (by omega))).other (gr_setCell _ (w.heap.size + 1) 0 (.slice po m pc)) (by omega))).other (gr_setCell _ (w.heap.size + 1) 1 (.slice (some ⟨b0', o0', none⟩) q ec)) (by omega))).other (gr_setCell _ (w.heap.size + 1 + 1) 0 (.slice uo u uc)) (by omega))).other (gr_setCell _ (w.heap.size + 1 + 1) 1 (.slice vo v vc)) (by omega))
      have hBX : Below w.heap.size w ((((((wz.setCell ⟨w.heap.size, 0, none⟩ (.int .i64 p)).setCell ⟨w.heap.size, 1, none⟩ (.slice go k gc)).setCell ⟨w.heap.size + 1, 0, none⟩ (.slice po m pc)).setCell ⟨w.heap.size + 1, 1, none⟩ (.slice (some ⟨b0', o0', none⟩) q ec)).setCell ⟨w.heap.size + 1 + 1, 0, none⟩ (.slice uo u uc)).setCell ⟨w.heap.size + 1 + 1, 1, none⟩ (.slice vo v vc)) := (ret_below (ret_below (ret_below hB0 (by omega) (.int .i64 p) (.slice go k gc)) (by omega) (.slice po m pc) (.slice (some ⟨b0', o0', none⟩) q ec)) (by omega) (.slice uo u uc) (.slice vo v vc))
      have d0 : ((((((wz.setCell ⟨w.heap.size, 0, none⟩ (.int .i64 p)).setCell ⟨w.heap.size, 1, none⟩ (.slice go k gc)).setCell ⟨w.heap.size + 1, 0, none⟩ (.slice po m pc)).setCell ⟨w.heap.size + 1, 1, none⟩ (.slice (some ⟨b0', o0', none⟩) q ec)).setCell ⟨w.heap.size + 1 + 1, 0, none⟩ (.slice uo u uc)).setCell ⟨w.heap.size + 1 + 1, 1, none⟩ (.slice vo v vc)).cell? ⟨w.heap.size, 0, none⟩ = some (.int .i64 p) := by simp [go_sem, r0, r1, r2, r3, r4, r5]
      have d1 : ((((((wz.setCell ⟨w.heap.size, 0, none⟩ (.int .i64 p)).setCell ⟨w.heap.size, 1, none⟩ (.slice go k gc)).setCell ⟨w.heap.size + 1, 0, none⟩ (.slice po m pc)).setCell ⟨w.heap.size + 1, 1, none⟩ (.slice (some ⟨b0', o0', none⟩) q ec)).setCell ⟨w.heap.size + 1 + 1, 0, none⟩ (.slice uo u uc)).setCell ⟨w.heap.size + 1 + 1, 1, none⟩ (.slice vo v vc)).cell? ⟨w.heap.size, 1, none⟩ = some (.slice go k gc) := by simp [go_sem, r0, r1, r2, r3, r4, r5]
      have d2 : ((((((wz.setCell ⟨w.heap.size, 0, none⟩ (.int .i64 p)).setCell ⟨w.heap.size, 1, none⟩ (.slice go k gc)).setCell ⟨w.heap.size + 1, 0, none⟩ (.slice po m pc)).setCell ⟨w.heap.size + 1, 1, none⟩ (.slice (some ⟨b0', o0', none⟩) q ec)).setCell ⟨w.heap.size + 1 + 1, 0, none⟩ (.slice uo u uc)).setCell ⟨w.heap.size + 1 + 1, 1, none⟩ (.slice vo v vc)).cell? ⟨w.heap.size + 1, 0, none⟩ = some (.slice po m pc) := by simp [go_sem, r0, r1, r2, r3, r4, r5]
      have d3 : ((((((wz.setCell ⟨w.heap.size, 0, none⟩ (.int .i64 p)).setCell ⟨w.heap.size, 1, none⟩ (.slice go k gc)).setCell ⟨w.heap.size + 1, 0, none⟩ (.slice po m pc)).setCell ⟨w.heap.size + 1, 1, none⟩ (.slice (some ⟨b0', o0', none⟩) q ec)).setCell ⟨w.heap.size + 1 + 1, 0, none⟩ (.slice uo u uc)).setCell ⟨w.heap.size + 1 + 1, 1, none⟩ (.slice vo v vc)).cell? ⟨w.heap.size + 1, 1, none⟩ = some (.slice (some ⟨b0', o0', none⟩) q ec) := by simp [go_sem, r0, r1, r2, r3, r4, r5]
      have d4 : ((((((wz.setCell ⟨w.heap.size, 0, none⟩ (.int .i64 p)).setCell ⟨w.heap.size, 1, none⟩ (.slice go k gc)).setCell ⟨w.heap.size + 1, 0, none⟩ (.slice po m pc)).setCell ⟨w.heap.size + 1, 1, none⟩ (.slice (some ⟨b0', o0', none⟩) q ec)).setCell ⟨w.heap.size + 1 + 1, 0, none⟩ (.slice uo u uc)).setCell ⟨w.heap.size + 1 + 1, 1, none⟩ (.slice vo v vc)).cell? ⟨w.heap.size + 1 + 1, 0, none⟩ = some (.slice uo u uc) := by simp [go_sem, r0, r1, r2, r3, r4, r5]
      have d5 : ((((((wz.setCell ⟨w.heap.size, 0, none⟩ (.int .i64 p)).setCell ⟨w.heap.size, 1, none⟩ (.slice go k gc)).setCell ⟨w.heap.size + 1, 0, none⟩ (.slice po m pc)).setCell ⟨w.heap.size + 1, 1, none⟩ (.slice (some ⟨b0', o0', none⟩) q ec)).setCell ⟨w.heap.size + 1 + 1, 0, none⟩ (.slice uo u uc)).setCell ⟨w.heap.size + 1 + 1, 1, none⟩ (.slice vo v vc)).cell? ⟨w.heap.size + 1 + 1, 1, none⟩ = some (.slice vo v vc) := by simp [go_sem, r0, r1, r2, r3, r4, r5]
      generalize ((((((wz.setCell ⟨w.heap.size, 0, none⟩ (.int .i64 p)).setCell ⟨w.heap.size, 1, none⟩ (.slice go k gc)).setCell ⟨w.heap.size + 1, 0, none⟩ (.slice po m pc)).setCell ⟨w.heap.size + 1, 1, none⟩ (.slice (some ⟨b0', o0', none⟩) q ec)).setCell ⟨w.heap.size + 1 + 1, 0, none⟩ (.slice uo u uc)).setCell ⟨w.heap.size + 1 + 1, 1, none⟩ (.slice vo v vc)) = WX at hO hBX d0 d1 d2 d3 d4 d5 ⊢
      clear r0 z0 r1 z1 r2 z2 r3 z3 r4 z4 r5 z5
      simp [bodyPost, results, Try.results26, go_sem, d0, d1, d2, d3, d4, d5]
      exact ⟨p, go, k, gc, po, m, pc, P, (some ⟨b0', o0', none⟩), q, ec, L, H, uo, u, uc, U, vo, v, vc, V, x9, y9, up, rfl, by omega, ⟨hwi.1, hwi.2⟩, hO.from (by omega), hBX⟩
    · go_wp2_with fail
      have hszr := rx2.lt
      replace rx0 := rx0.next (Below.refl w9.heap.size w9).drew
      replace rx1 := rx1.next (Below.refl w9.heap.size w9).drew
      replace rx2 := rx2.next (Below.refl w9.heap.size w9).drew
      replace gx := gx.next (Below.refl w9.heap.size w9).drew
      replace hx := hx.next (Below.refl w9.heap.size w9).drew
      replace mx := mx.next (Below.refl w9.heap.size w9).drew
      replace ex := ex.next (Below.refl w9.heap.size w9).drew
      replace hD := hD.next (Below.refl w9.heap.size w9).drew
      replace hC9 := hC9.next (Below.refl w9.heap.size w9).drew
      replace hB0 := hB0.drew
      have hsdd : w9.drew.heap.size = w9.heap.size := rfl
      have a0 : w9.drew.cell? ⟨gb, 0, none⟩ = some (.int .i64 p) := gx.cell (j := 0) (by omega)
      have a1 : w9.drew.cell? ⟨gb, 1, none⟩ = some (.slice go k gc) := gx.cell (j := 1) (by omega)
      have a2 : w9.drew.cell? ⟨hb, 0, none⟩ = some (.slice po m pc) := hx.cell (j := 0) (by omega)
      have a3 : w9.drew.cell? ⟨hb, 1, none⟩ = some (.slice eo q ec) := hx.cell (j := 1) (by omega)
      have a4 : w9.drew.cell? ⟨mb, 0, none⟩ = some (.slice uo u uc) := mx.cell (j := 0) (by omega)
      have a5 : w9.drew.cell? ⟨mb, 1, none⟩ = some (.slice vo v vc) := mx.cell (j := 1) (by omega)
      have a6 : w9.drew.cell? ⟨eb, 0, none⟩ = some (.int .i64 x) := ex.cell (j := 0) (by omega)
      have a7 : w9.drew.cell? ⟨eb, 1, none⟩ = some (.int .i64 y) := ex.cell (j := 1) (by omega)
      have HA9 : Hid (Calls Try.prog 54 #[.pointer (some ⟨c, 0, none⟩), .int .i64 2] w9.drew fun e w' => ∃ b : Bool, e = .returned (.bool b) ∧ CurAt w' _ c ao n cap ∧ w9.drew.grownBy w' (some c)) := l1Once_any _ c ao n cap 2 (by omega) (by omega) w9.drew hC9
      go_region_held3 (fun w' => w'.cell? ⟨gb, 0, none⟩ = some (.int .i64 p) ∧ w'.cell? ⟨gb, 1, none⟩ = some (.slice go k gc) ∧ w'.cell? ⟨hb, 0, none⟩ = some (.slice po m pc) ∧ w'.cell? ⟨hb, 1, none⟩ = some (.slice eo q ec) ∧ w'.cell? ⟨mb, 0, none⟩ = some (.slice uo u uc) ∧ w'.cell? ⟨mb, 1, none⟩ = some (.slice vo v vc) ∧ w'.cell? ⟨eb, 0, none⟩ = some (.int .i64 x) ∧ w'.cell? ⟨eb, 1, none⟩ = some (.int .i64 y))
        (first | (refine ⟨?_, ?_, ?_, ?_, ?_, ?_, ?_, ?_⟩ <;> ((repeat (with_reducible refine cell_set_ne (by omega) ?_)); with_reducible first | exact b0 | exact b1 | exact b2 | exact b3 | exact b4 | exact b5 | exact b6 | exact b7)) | go_keep)
        (first | (go_at_call 54; refine HA9.out.mono ?_; rintro e wz ⟨up, rfl, hCz, hgz⟩; have hsz := hgz.size; have gxz := gx.grown hgz (by simp; omega); have hxz := hx.grown hgz (by simp; omega); have mxz := mx.grown hgz (by simp; omega); have exz := ex.grown hgz (by simp; omega); have rx0z := rx0.grown hgz (by simp; omega); have rx1z := rx1.grown hgz (by simp; omega); have rx2z := rx2.grown hgz (by simp; omega); have b0 : wz.cell? ⟨gb, 0, none⟩ = some (.int .i64 p) := gxz.cell (j := 0) (by omega); have b1 : wz.cell? ⟨gb, 1, none⟩ = some (.slice go k gc) := gxz.cell (j := 1) (by omega); have b2 : wz.cell? ⟨hb, 0, none⟩ = some (.slice po m pc) := hxz.cell (j := 0) (by omega); have b3 : wz.cell? ⟨hb, 1, none⟩ = some (.slice eo q ec) := hxz.cell (j := 1) (by omega); have b4 : wz.cell? ⟨mb, 0, none⟩ = some (.slice uo u uc) := mxz.cell (j := 0) (by omega); have b5 : wz.cell? ⟨mb, 1, none⟩ = some (.slice vo v vc) := mxz.cell (j := 1) (by omega); have b6 : wz.cell? ⟨eb, 0, none⟩ = some (.int .i64 x) := exz.cell (j := 0) (by omega); have b7 : wz.cell? ⟨eb, 1, none⟩ = some (.int .i64 y) := exz.cell (j := 1) (by omega); have r0 : wz.cell? ⟨w.heap.size, 0, none⟩ = some (.int .i64 0) := rx0z.cell (j := 0) (by omega); have z0 := rx0z.frozen 0; have r1 : wz.cell? ⟨w.heap.size, 1, none⟩ = some (.slice none 0 0) := rx0z.cell (j := 1) (by omega); have z1 := rx0z.frozen 1; have r2 : wz.cell? ⟨w.heap.size + 1, 0, none⟩ = some (.slice none 0 0) := rx1z.cell (j := 0) (by omega); have z2 := rx1z.frozen 0; have r3 : wz.cell? ⟨w.heap.size + 1, 1, none⟩ = some (.slice none 0 0) := rx1z.cell (j := 1) (by omega); have z3 := rx1z.frozen 1; have r4 : wz.cell? ⟨w.heap.size + 1 + 1, 0, none⟩ = some (.slice none 0 0) := rx2z.cell (j := 0) (by omega); have z4 := rx2z.frozen 0; have r5 : wz.cell? ⟨w.heap.size + 1 + 1, 1, none⟩ = some (.slice none 0 0) := rx2z.cell (j := 1) (by omega); have z5 := rx2z.frozen 1; have hlr := rx2z.lt))
      clear HA9
      replace hD := hD.other hgz (by omega)
      replace rx0 := rx0.grown hgz (by simp; omega)
      replace rx1 := rx1.grown hgz (by simp; omega)
      replace rx2 := rx2.grown hgz (by simp; omega)
      replace hB0 := hB0.trans (gr_below hgz (by omega) (by omega))
      clear gxz hxz mxz exz gx hx mx ex a0 b0 a1 b1 a2 b2 a3 b3 a4 b4 a5 b5 a6 b6 a7 b7
      clear r0 z0 r1 z1 r2 z2 r3 z3 r4 z4 r5 z5 hlr
      have r0 : wz.cell? ⟨w.heap.size, 0, none⟩ = some (.int .i64 0) := rx0.cell (j := 0) (by omega)
      have z0 := rx0.frozen 0
      have r1 : wz.cell? ⟨w.heap.size, 1, none⟩ = some (.slice none 0 0) := rx0.cell (j := 1) (by omega)
      have z1 := rx0.frozen 1
      have r2 : wz.cell? ⟨w.heap.size + 1, 0, none⟩ = some (.slice none 0 0) := rx1.cell (j := 0) (by omega)
      have z2 := rx1.frozen 0
      have r3 : wz.cell? ⟨w.heap.size + 1, 1, none⟩ = some (.slice none 0 0) := rx1.cell (j := 1) (by omega)
      have z3 := rx1.frozen 1
      have r4 : wz.cell? ⟨w.heap.size + 1 + 1, 0, none⟩ = some (.slice none 0 0) := rx2.cell (j := 0) (by omega)
      have z4 := rx2.frozen 0
      have r5 : wz.cell? ⟨w.heap.size + 1 + 1, 1, none⟩ = some (.slice none 0 0) := rx2.cell (j := 1) (by omega)
      have z5 := rx2.frozen 1
      have hlr := rx2.lt
      go_wp2
      have hO := ((((((((((((hD).other (gr_setCell _ w.heap.size 0 (.int .i64 p)) (by omega))).other (gr_setCell _ w.heap.size 1 (.slice go k gc)) (by omega))).other (gr_setCell _ (w.heap.size + 1) 0 (.slice po m pc)) (by omega))).other (gr_setCell _ (w.heap.size + 1) 1 (.slice eo q ec)) (by omega))).other (gr_setCell _ (w.heap.size + 1 + 1) 0 (.slice uo u uc)) (by omega))).other (gr_setCell _ (w.heap.size + 1 + 1) 1 (.slice vo v vc)) (by omega))
      have hBX : Below w.heap.size w ((((((wz.setCell ⟨w.heap.size, 0, none⟩ (.int .i64 p)).setCell ⟨w.heap.size, 1, none⟩ (.slice go k gc)).setCell ⟨w.heap.size + 1, 0, none⟩ (.slice po m pc)).setCell ⟨w.heap.size + 1, 1, none⟩ (.slice eo q ec)).setCell ⟨w.heap.size + 1 + 1, 0, none⟩ (.slice uo u uc)).setCell ⟨w.heap.size + 1 + 1, 1, none⟩ (.slice vo v vc)) := (ret_below (ret_below (ret_below hB0 (by omega) (.int .i64 p) (.slice go k gc)) (by omega) (.slice po m pc) (.slice eo q ec)) (by omega) (.slice uo u uc) (.slice vo v vc))
      have d0 : ((((((wz.setCell ⟨w.heap.size, 0, none⟩ (.int .i64 p)).setCell ⟨w.heap.size, 1, none⟩ (.slice go k gc)).setCell ⟨w.heap.size + 1, 0, none⟩ (.slice po m pc)).setCell ⟨w.heap.size + 1, 1, none⟩ (.slice eo q ec)).setCell ⟨w.heap.size + 1 + 1, 0, none⟩ (.slice uo u uc)).setCell ⟨w.heap.size + 1 + 1, 1, none⟩ (.slice vo v vc)).cell? ⟨w.heap.size, 0, none⟩ = some (.int .i64 p) := by simp [go_sem, r0, r1, r2, r3, r4, r5]
      have d1 : ((((((wz.setCell ⟨w.heap.size, 0, none⟩ (.int .i64 p)).setCell ⟨w.heap.size, 1, none⟩ (.slice go k gc)).setCell ⟨w.heap.size + 1, 0, none⟩ (.slice po m pc)).setCell ⟨w.heap.size + 1, 1, none⟩ (.slice eo q ec)).setCell ⟨w.heap.size + 1 + 1, 0, none⟩ (.slice uo u uc)).setCell ⟨w.heap.size + 1 + 1, 1, none⟩ (.slice vo v vc)).cell? ⟨w.heap.size, 1, none⟩ = some (.slice go k gc) := by simp [go_sem, r0, r1, r2, r3, r4, r5]
      have d2 : ((((((wz.setCell ⟨w.heap.size, 0, none⟩ (.int .i64 p)).setCell ⟨w.heap.size, 1, none⟩ (.slice go k gc)).setCell ⟨w.heap.size + 1, 0, none⟩ (.slice po m pc)).setCell ⟨w.heap.size + 1, 1, none⟩ (.slice eo q ec)).setCell ⟨w.heap.size + 1 + 1, 0, none⟩ (.slice uo u uc)).setCell ⟨w.heap.size + 1 + 1, 1, none⟩ (.slice vo v vc)).cell? ⟨w.heap.size + 1, 0, none⟩ = some (.slice po m pc) := by simp [go_sem, r0, r1, r2, r3, r4, r5]
      have d3 : ((((((wz.setCell ⟨w.heap.size, 0, none⟩ (.int .i64 p)).setCell ⟨w.heap.size, 1, none⟩ (.slice go k gc)).setCell ⟨w.heap.size + 1, 0, none⟩ (.slice po m pc)).setCell ⟨w.heap.size + 1, 1, none⟩ (.slice eo q ec)).setCell ⟨w.heap.size + 1 + 1, 0, none⟩ (.slice uo u uc)).setCell ⟨w.heap.size + 1 + 1, 1, none⟩ (.slice vo v vc)).cell? ⟨w.heap.size + 1, 1, none⟩ = some (.slice eo q ec) := by simp [go_sem, r0, r1, r2, r3, r4, r5]
      have d4 : ((((((wz.setCell ⟨w.heap.size, 0, none⟩ (.int .i64 p)).setCell ⟨w.heap.size, 1, none⟩ (.slice go k gc)).setCell ⟨w.heap.size + 1, 0, none⟩ (.slice po m pc)).setCell ⟨w.heap.size + 1, 1, none⟩ (.slice eo q ec)).setCell ⟨w.heap.size + 1 + 1, 0, none⟩ (.slice uo u uc)).setCell ⟨w.heap.size + 1 + 1, 1, none⟩ (.slice vo v vc)).cell? ⟨w.heap.size + 1 + 1, 0, none⟩ = some (.slice uo u uc) := by simp [go_sem, r0, r1, r2, r3, r4, r5]
      have d5 : ((((((wz.setCell ⟨w.heap.size, 0, none⟩ (.int .i64 p)).setCell ⟨w.heap.size, 1, none⟩ (.slice go k gc)).setCell ⟨w.heap.size + 1, 0, none⟩ (.slice po m pc)).setCell ⟨w.heap.size + 1, 1, none⟩ (.slice eo q ec)).setCell ⟨w.heap.size + 1 + 1, 0, none⟩ (.slice uo u uc)).setCell ⟨w.heap.size + 1 + 1, 1, none⟩ (.slice vo v vc)).cell? ⟨w.heap.size + 1 + 1, 1, none⟩ = some (.slice vo v vc) := by simp [go_sem, r0, r1, r2, r3, r4, r5]
      generalize ((((((wz.setCell ⟨w.heap.size, 0, none⟩ (.int .i64 p)).setCell ⟨w.heap.size, 1, none⟩ (.slice go k gc)).setCell ⟨w.heap.size + 1, 0, none⟩ (.slice po m pc)).setCell ⟨w.heap.size + 1, 1, none⟩ (.slice eo q ec)).setCell ⟨w.heap.size + 1 + 1, 0, none⟩ (.slice uo u uc)).setCell ⟨w.heap.size + 1 + 1, 1, none⟩ (.slice vo v vc)) = WX at hO hBX d0 d1 d2 d3 d4 d5 ⊢
      clear r0 z0 r1 z1 r2 z2 r3 z3 r4 z4 r5 z5
      simp [bodyPost, results, Try.results26, go_sem, d0, d1, d2, d3, d4, d5]
      exact ⟨p, go, k, gc, po, m, pc, P, eo, q, ec, L, H, uo, u, uc, U, vo, v, vc, V, x, y, up, rfl, by omega, ⟨QX.out, QY.out⟩, hO.from (by omega), hBX⟩
  subst hq1
  go_wp2_with fail
  generalize (w7.alloc (.cells #[.int .i64 x, .int .i64 y] 38)) = W8 at rx0 rx1 rx2 gx hx mx ex hD hC7 hB0 hsz8 h1 ⊢
  obtain ⟨eb, heb⟩ : ∃ eb, w7.heap.size = eb := ⟨_, rfl⟩
  simp only [heb] at ex hsz8 hs7 hszB7 ⊢
  have hszr := rx2.lt
  replace rx0 := rx0.next (Below.refl W8.heap.size W8).drew
  replace rx1 := rx1.next (Below.refl W8.heap.size W8).drew
  replace rx2 := rx2.next (Below.refl W8.heap.size W8).drew
  replace gx := gx.next (Below.refl W8.heap.size W8).drew
  replace hx := hx.next (Below.refl W8.heap.size W8).drew
  replace mx := mx.next (Below.refl W8.heap.size W8).drew
  replace ex := ex.next (Below.refl W8.heap.size W8).drew
  replace hD := hD.next (Below.refl W8.heap.size W8).drew
  replace hC7 := hC7.next (Below.refl W8.heap.size W8).drew
  replace hB0 := hB0.drew
  have hsdd : W8.drew.heap.size = W8.heap.size := rfl
  have a0 : W8.drew.cell? ⟨gb, 0, none⟩ = some (.int .i64 p) := gx.cell (j := 0) (by omega)
  have a1 : W8.drew.cell? ⟨gb, 1, none⟩ = some (.slice go k gc) := gx.cell (j := 1) (by omega)
  have a2 : W8.drew.cell? ⟨hb, 0, none⟩ = some (.slice po m pc) := hx.cell (j := 0) (by omega)
  have a3 : W8.drew.cell? ⟨hb, 1, none⟩ = some (.slice eo 0 ec) := hx.cell (j := 1) (by omega)
  have a4 : W8.drew.cell? ⟨mb, 0, none⟩ = some (.slice uo u uc) := mx.cell (j := 0) (by omega)
  have a5 : W8.drew.cell? ⟨mb, 1, none⟩ = some (.slice vo v vc) := mx.cell (j := 1) (by omega)
  have a6 : W8.drew.cell? ⟨eb, 0, none⟩ = some (.int .i64 x) := ex.cell (j := 0) (by omega)
  have a7 : W8.drew.cell? ⟨eb, 1, none⟩ = some (.int .i64 y) := ex.cell (j := 1) (by omega)
  have HA9 : Hid (Calls Try.prog 54 #[.pointer (some ⟨c, 0, none⟩), .int .i64 2] W8.drew fun e w' => ∃ b : Bool, e = .returned (.bool b) ∧ CurAt w' _ c ao n cap ∧ W8.drew.grownBy w' (some c)) := l1Once_any _ c ao n cap 2 (by omega) (by omega) W8.drew hC7
  go_region_held3 (fun w' => w'.cell? ⟨gb, 0, none⟩ = some (.int .i64 p) ∧ w'.cell? ⟨gb, 1, none⟩ = some (.slice go k gc) ∧ w'.cell? ⟨hb, 0, none⟩ = some (.slice po m pc) ∧ w'.cell? ⟨hb, 1, none⟩ = some (.slice eo 0 ec) ∧ w'.cell? ⟨mb, 0, none⟩ = some (.slice uo u uc) ∧ w'.cell? ⟨mb, 1, none⟩ = some (.slice vo v vc) ∧ w'.cell? ⟨eb, 0, none⟩ = some (.int .i64 x) ∧ w'.cell? ⟨eb, 1, none⟩ = some (.int .i64 y))
    (first | (refine ⟨?_, ?_, ?_, ?_, ?_, ?_, ?_, ?_⟩ <;> ((repeat (with_reducible refine cell_set_ne (by omega) ?_)); with_reducible first | exact b0 | exact b1 | exact b2 | exact b3 | exact b4 | exact b5 | exact b6 | exact b7)) | go_keep)
    (first | (go_at_call 54; refine HA9.out.mono ?_; rintro e wz ⟨up, rfl, hCz, hgz⟩; have hsz := hgz.size; have gxz := gx.grown hgz (by simp; omega); have hxz := hx.grown hgz (by simp; omega); have mxz := mx.grown hgz (by simp; omega); have exz := ex.grown hgz (by simp; omega); have rx0z := rx0.grown hgz (by simp; omega); have rx1z := rx1.grown hgz (by simp; omega); have rx2z := rx2.grown hgz (by simp; omega); have b0 : wz.cell? ⟨gb, 0, none⟩ = some (.int .i64 p) := gxz.cell (j := 0) (by omega); have b1 : wz.cell? ⟨gb, 1, none⟩ = some (.slice go k gc) := gxz.cell (j := 1) (by omega); have b2 : wz.cell? ⟨hb, 0, none⟩ = some (.slice po m pc) := hxz.cell (j := 0) (by omega); have b3 : wz.cell? ⟨hb, 1, none⟩ = some (.slice eo 0 ec) := hxz.cell (j := 1) (by omega); have b4 : wz.cell? ⟨mb, 0, none⟩ = some (.slice uo u uc) := mxz.cell (j := 0) (by omega); have b5 : wz.cell? ⟨mb, 1, none⟩ = some (.slice vo v vc) := mxz.cell (j := 1) (by omega); have b6 : wz.cell? ⟨eb, 0, none⟩ = some (.int .i64 x) := exz.cell (j := 0) (by omega); have b7 : wz.cell? ⟨eb, 1, none⟩ = some (.int .i64 y) := exz.cell (j := 1) (by omega); have r0 : wz.cell? ⟨w.heap.size, 0, none⟩ = some (.int .i64 0) := rx0z.cell (j := 0) (by omega); have z0 := rx0z.frozen 0; have r1 : wz.cell? ⟨w.heap.size, 1, none⟩ = some (.slice none 0 0) := rx0z.cell (j := 1) (by omega); have z1 := rx0z.frozen 1; have r2 : wz.cell? ⟨w.heap.size + 1, 0, none⟩ = some (.slice none 0 0) := rx1z.cell (j := 0) (by omega); have z2 := rx1z.frozen 0; have r3 : wz.cell? ⟨w.heap.size + 1, 1, none⟩ = some (.slice none 0 0) := rx1z.cell (j := 1) (by omega); have z3 := rx1z.frozen 1; have r4 : wz.cell? ⟨w.heap.size + 1 + 1, 0, none⟩ = some (.slice none 0 0) := rx2z.cell (j := 0) (by omega); have z4 := rx2z.frozen 0; have r5 : wz.cell? ⟨w.heap.size + 1 + 1, 1, none⟩ = some (.slice none 0 0) := rx2z.cell (j := 1) (by omega); have z5 := rx2z.frozen 1; have hlr := rx2z.lt))
  clear HA9
  replace hD := hD.other hgz (by omega)
  replace rx0 := rx0.grown hgz (by simp; omega)
  replace rx1 := rx1.grown hgz (by simp; omega)
  replace rx2 := rx2.grown hgz (by simp; omega)
  replace hB0 := hB0.trans (gr_below hgz (by omega) (by omega))
  clear gxz hxz mxz exz gx hx mx ex a0 b0 a1 b1 a2 b2 a3 b3 a4 b4 a5 b5 a6 b6 a7 b7
  clear r0 z0 r1 z1 r2 z2 r3 z3 r4 z4 r5 z5 hlr
  have r0 : wz.cell? ⟨w.heap.size, 0, none⟩ = some (.int .i64 0) := rx0.cell (j := 0) (by omega)
  have z0 := rx0.frozen 0
  have r1 : wz.cell? ⟨w.heap.size, 1, none⟩ = some (.slice none 0 0) := rx0.cell (j := 1) (by omega)
  have z1 := rx0.frozen 1
  have r2 : wz.cell? ⟨w.heap.size + 1, 0, none⟩ = some (.slice none 0 0) := rx1.cell (j := 0) (by omega)
  have z2 := rx1.frozen 0
  have r3 : wz.cell? ⟨w.heap.size + 1, 1, none⟩ = some (.slice none 0 0) := rx1.cell (j := 1) (by omega)
  have z3 := rx1.frozen 1
  have r4 : wz.cell? ⟨w.heap.size + 1 + 1, 0, none⟩ = some (.slice none 0 0) := rx2.cell (j := 0) (by omega)
  have z4 := rx2.frozen 0
  have r5 : wz.cell? ⟨w.heap.size + 1 + 1, 1, none⟩ = some (.slice none 0 0) := rx2.cell (j := 1) (by omega)
  have z5 := rx2.frozen 1
  have hlr := rx2.lt
  go_wp2
  have hO := ((((((((((((hD).other (gr_setCell _ w.heap.size 0 (.int .i64 p)) (by omega))).other (gr_setCell _ w.heap.size 1 (.slice go k gc)) (by omega))).other (gr_setCell _ (w.heap.size + 1) 0 (.slice po m pc)) (by omega))).other (gr_setCell _ (w.heap.size + 1) 1 (.slice eo 0 ec)) (by omega))).other (gr_setCell _ (w.heap.size + 1 + 1) 0 (.slice uo u uc)) (by omega))).other (gr_setCell _ (w.heap.size + 1 + 1) 1 (.slice vo v vc)) (by omega))
  have hBX : Below w.heap.size w ((((((wz.setCell ⟨w.heap.size, 0, none⟩ (.int .i64 p)).setCell ⟨w.heap.size, 1, none⟩ (.slice go k gc)).setCell ⟨w.heap.size + 1, 0, none⟩ (.slice po m pc)).setCell ⟨w.heap.size + 1, 1, none⟩ (.slice eo 0 ec)).setCell ⟨w.heap.size + 1 + 1, 0, none⟩ (.slice uo u uc)).setCell ⟨w.heap.size + 1 + 1, 1, none⟩ (.slice vo v vc)) := (ret_below (ret_below (ret_below hB0 (by omega) (.int .i64 p) (.slice go k gc)) (by omega) (.slice po m pc) (.slice eo 0 ec)) (by omega) (.slice uo u uc) (.slice vo v vc))
  have d0 : ((((((wz.setCell ⟨w.heap.size, 0, none⟩ (.int .i64 p)).setCell ⟨w.heap.size, 1, none⟩ (.slice go k gc)).setCell ⟨w.heap.size + 1, 0, none⟩ (.slice po m pc)).setCell ⟨w.heap.size + 1, 1, none⟩ (.slice eo 0 ec)).setCell ⟨w.heap.size + 1 + 1, 0, none⟩ (.slice uo u uc)).setCell ⟨w.heap.size + 1 + 1, 1, none⟩ (.slice vo v vc)).cell? ⟨w.heap.size, 0, none⟩ = some (.int .i64 p) := by simp [go_sem, r0, r1, r2, r3, r4, r5]
  have d1 : ((((((wz.setCell ⟨w.heap.size, 0, none⟩ (.int .i64 p)).setCell ⟨w.heap.size, 1, none⟩ (.slice go k gc)).setCell ⟨w.heap.size + 1, 0, none⟩ (.slice po m pc)).setCell ⟨w.heap.size + 1, 1, none⟩ (.slice eo 0 ec)).setCell ⟨w.heap.size + 1 + 1, 0, none⟩ (.slice uo u uc)).setCell ⟨w.heap.size + 1 + 1, 1, none⟩ (.slice vo v vc)).cell? ⟨w.heap.size, 1, none⟩ = some (.slice go k gc) := by simp [go_sem, r0, r1, r2, r3, r4, r5]
  have d2 : ((((((wz.setCell ⟨w.heap.size, 0, none⟩ (.int .i64 p)).setCell ⟨w.heap.size, 1, none⟩ (.slice go k gc)).setCell ⟨w.heap.size + 1, 0, none⟩ (.slice po m pc)).setCell ⟨w.heap.size + 1, 1, none⟩ (.slice eo 0 ec)).setCell ⟨w.heap.size + 1 + 1, 0, none⟩ (.slice uo u uc)).setCell ⟨w.heap.size + 1 + 1, 1, none⟩ (.slice vo v vc)).cell? ⟨w.heap.size + 1, 0, none⟩ = some (.slice po m pc) := by simp [go_sem, r0, r1, r2, r3, r4, r5]
  have d3 : ((((((wz.setCell ⟨w.heap.size, 0, none⟩ (.int .i64 p)).setCell ⟨w.heap.size, 1, none⟩ (.slice go k gc)).setCell ⟨w.heap.size + 1, 0, none⟩ (.slice po m pc)).setCell ⟨w.heap.size + 1, 1, none⟩ (.slice eo 0 ec)).setCell ⟨w.heap.size + 1 + 1, 0, none⟩ (.slice uo u uc)).setCell ⟨w.heap.size + 1 + 1, 1, none⟩ (.slice vo v vc)).cell? ⟨w.heap.size + 1, 1, none⟩ = some (.slice eo 0 ec) := by simp [go_sem, r0, r1, r2, r3, r4, r5]
  have d4 : ((((((wz.setCell ⟨w.heap.size, 0, none⟩ (.int .i64 p)).setCell ⟨w.heap.size, 1, none⟩ (.slice go k gc)).setCell ⟨w.heap.size + 1, 0, none⟩ (.slice po m pc)).setCell ⟨w.heap.size + 1, 1, none⟩ (.slice eo 0 ec)).setCell ⟨w.heap.size + 1 + 1, 0, none⟩ (.slice uo u uc)).setCell ⟨w.heap.size + 1 + 1, 1, none⟩ (.slice vo v vc)).cell? ⟨w.heap.size + 1 + 1, 0, none⟩ = some (.slice uo u uc) := by simp [go_sem, r0, r1, r2, r3, r4, r5]
  have d5 : ((((((wz.setCell ⟨w.heap.size, 0, none⟩ (.int .i64 p)).setCell ⟨w.heap.size, 1, none⟩ (.slice go k gc)).setCell ⟨w.heap.size + 1, 0, none⟩ (.slice po m pc)).setCell ⟨w.heap.size + 1, 1, none⟩ (.slice eo 0 ec)).setCell ⟨w.heap.size + 1 + 1, 0, none⟩ (.slice uo u uc)).setCell ⟨w.heap.size + 1 + 1, 1, none⟩ (.slice vo v vc)).cell? ⟨w.heap.size + 1 + 1, 1, none⟩ = some (.slice vo v vc) := by simp [go_sem, r0, r1, r2, r3, r4, r5]
  generalize ((((((wz.setCell ⟨w.heap.size, 0, none⟩ (.int .i64 p)).setCell ⟨w.heap.size, 1, none⟩ (.slice go k gc)).setCell ⟨w.heap.size + 1, 0, none⟩ (.slice po m pc)).setCell ⟨w.heap.size + 1, 1, none⟩ (.slice eo 0 ec)).setCell ⟨w.heap.size + 1 + 1, 0, none⟩ (.slice uo u uc)).setCell ⟨w.heap.size + 1 + 1, 1, none⟩ (.slice vo v vc)) = WX at hO hBX d0 d1 d2 d3 d4 d5 ⊢
  clear r0 z0 r1 z1 r2 z2 r3 z3 r4 z4 r5 z5
  simp [bodyPost, results, Try.results26, go_sem, d0, d1, d2, d3, d4, d5]
  exact ⟨p, go, k, gc, po, m, pc, P, eo, 0, ec, L, H, uo, u, uc, U, vo, v, vc, V, x, y, up, rfl, by omega, ⟨QX.out, QY.out⟩, hO.from (by omega), hBX⟩

end Go.Proofs.Yteibbknpcgcjjab
