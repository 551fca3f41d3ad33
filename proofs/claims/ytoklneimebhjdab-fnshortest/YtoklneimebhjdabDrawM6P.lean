/-
  The document's draws of a hierarchy, a metric and two places.
-/
import Derived.Test.YtoklneimebhjdabDrawM5P
import Derived.Test.YtoklneimebhjdabDrawH7P
import Derived.Test.YtoklneimebhjdabDrawPlP
set_option linter.unusedVariables false
set_option linter.unusedSimpArgs false
namespace Go.Proofs.Ytoklneimebhjdab
open Go.RowKit Go.Maps Go.Deep Go.Joins
attribute [local go_sem ↓] Go.wp_at_zero Go.wp_at_succ

/-- A hierarchy and a metric that are drawn, in new memory. -/
structure HMs (w : World) (base c : Nat) (ao : Option Addr) (n cap : Nat) (po : Option Addr) (m : Nat) (P : Nat → Int) (eo : Option Addr) (q : Nat) (L H : Nat → Int) (uo : Option Addr) (u : Nat) (U : Nat → Int) (vo : Option Addr) (v : Nat) (V : Nat → Int) (W : World) : Prop where
  cur : CurAt W base c ao n cap
  gr : w.grownBy W (some c)
  ord : IRow W po m P
  ordb : ∀ a, po = some a → 0 < m → w.heap.size ≤ a.block
  edg : ERow W eo q L H
  edgb : ∀ a, eo = some a → 0 < q → w.heap.size ≤ a.block
  up : IRow W uo u U
  upb : ∀ a, uo = some a → 0 < u → w.heap.size ≤ a.block
  dn : IRow W vo v V
  dnb : ∀ a, vo = some a → 0 < v → w.heap.size ≤ a.block
theorem ERow.otherE {w w' : World} {ao : Option Addr} {n : Nat} {L H : Nat → Int} {x : Nat} (h : ERow w ao n L H) (hg : w.grownBy w' (some x)) (hB : ∀ a, ao = some a → 0 < n → a.block ≠ x) : ERow w' ao n L H := fun k hk => by
  obtain ⟨b, o, e, c0, c1⟩ := h k hk
  have hne : some b ≠ some x := fun q => hB _ e (by omega) (by simpa using q)
  exact ⟨b, o, e, hg.cell c0 hne, hg.cell c1 hne⟩
section
variable {w W W' : World} {base c : Nat} {ao : Option Addr} {n cap : Nat} {po : Option Addr} {m : Nat} {P : Nat → Int} {eo : Option Addr} {q : Nat} {L H : Nat → Int} {uo : Option Addr} {u : Nat} {U : Nat → Int} {vo : Option Addr} {v : Nat} {V : Nat → Int}
theorem HMs.step (h : HMs w base c ao n cap po m P eo q L H uo u U vo v V W) (hc : c < w.heap.size) (hC : CurAt W' base c ao n cap) (hg : W.grownBy W' (some c)) : HMs w base c ao n cap po m P eo q L H uo u U vo v V W' :=
  ⟨hC, h.gr.trans hg, h.ord.otherE hg (fun a e h0 => by have := h.ordb a e h0; omega), h.ordb, h.edg.otherE hg (fun a e h0 => by have := h.edgb a e h0; omega), h.edgb, h.up.otherE hg (fun a e h0 => by have := h.upb a e h0; omega), h.upb, h.dn.otherE hg (fun a e h0 => by have := h.dnb a e h0; omega), h.dnb⟩
theorem HMs.next (h : HMs w base c ao n cap po m P eo q L H uo u U vo v V W) (hb : Below W.heap.size W W') : HMs w base c ao n cap po m P eo q L H uo u U vo v V W' :=
  ⟨h.cur.next hb, h.gr.trans ⟨hb.os, hb.tape, hb.output, hb.size, fun k hk _ => hb.block k hk⟩, h.ord.below hb (Nat.le_refl _), h.ordb, h.edg.below hb (Nat.le_refl _), h.edgb, h.up.below hb (Nat.le_refl _), h.upb, h.dn.below hb (Nat.le_refl _), h.dnb⟩
/-- A block that lay already, the cursor's aside, or a new one, is turned: no list of these lies there. -/
theorem HMs.other {x : Nat} (h : HMs w base c ao n cap po m P eo q L H uo u U vo v V W) (hg : W.grownBy W' (some x)) (hx : w.heap.size ≤ x) (hC : CurAt W' base c ao n cap) (h1 : ∀ a, po = some a → 0 < m → a.block ≠ x) (h2 : ∀ a, eo = some a → 0 < q → a.block ≠ x) (h3 : ∀ a, uo = some a → 0 < u → a.block ≠ x) (h4 : ∀ a, vo = some a → 0 < v → a.block ≠ x) : HMs w base c ao n cap po m P eo q L H uo u U vo v V W' :=
  ⟨hC, gr_far h.gr hg (fun g e => by cases e; exact Nat.le_refl _) hx, h.ord.otherE hg h1, h.ordb, h.edg.otherE hg h2, h.edgb, h.up.otherE hg h3, h.upb, h.dn.otherE hg h4, h.dnb⟩
end

/-- What stands while a hierarchy and a metric are drawn: W0 has the boxes of the two results. -/
structure LW (w W0 : World) (base c : Nat) (ao : Option Addr) (n cap : Nat) (hb mb : Nat) (po : Option Addr) (m pc : Nat) (P : Nat → Int) (eo : Option Addr) (q ec : Nat) (L H : Nat → Int) (uo : Option Addr) (u uc : Nat) (U : Nat → Int) (vo : Option Addr) (v vc : Nat) (V : Nat → Int) (W : World) : Prop where
  hm : HMs W0 base c ao n cap po m P eo q L H uo u U vo v V W
  gr : w.grownBy W (some c)
  rh : VHas W w.heap.size 40 2 (me2 (.slice none 0 0) (.slice none 0 0))
  rm : VHas W (w.heap.size + 1) 42 2 (me2 (.slice none 0 0) (.slice none 0 0))
  hbx : VHas W hb 40 2 (me2 (.slice po m pc) (.slice eo q ec))
  mbx : VHas W mb 42 2 (me2 (.slice uo u uc) (.slice vo v vc))
  ne : W0.heap.size = w.heap.size + 2 ∧ w.heap.size + 2 ≤ hb ∧ w.heap.size + 2 ≤ mb ∧ hb ≠ mb
section
variable {w W0 W W' : World} {base c : Nat} {ao : Option Addr} {n cap hb mb : Nat} {po : Option Addr} {m pc : Nat} {P : Nat → Int} {eo : Option Addr} {q ec : Nat} {L H : Nat → Int} {uo : Option Addr} {u uc : Nat} {U : Nat → Int} {vo : Option Addr} {v vc : Nat} {V : Nat → Int}
theorem LW.step (h : LW w W0 base c ao n cap hb mb po m pc P eo q ec L H uo u uc U vo v vc V W) (hc : c < w.heap.size) (hC : CurAt W' base c ao n cap) (hg : W.grownBy W' (some c)) : LW w W0 base c ao n cap hb mb po m pc P eo q ec L H uo u uc U vo v vc V W' := by
  have hne := h.ne
  exact ⟨h.hm.step (by omega) hC hg, h.gr.trans hg, h.rh.grown hg (by simp; omega), h.rm.grown hg (by simp; omega), h.hbx.grown hg (by simp; omega), h.mbx.grown hg (by simp; omega), h.ne⟩
theorem LW.out (h : LW w W0 base c ao n cap hb mb po m pc P eo q ec L H uo u uc U vo v vc V W) (hc : c < w.heap.size) (v0 v1 v2 v3 : Value) :
    HMs w base c ao n cap po m P eo q L H uo u U vo v V ((((W.setCell ⟨w.heap.size, 0, none⟩ v0).setCell ⟨w.heap.size, 1, none⟩ v1).setCell ⟨w.heap.size + 1, 0, none⟩ v2).setCell ⟨w.heap.size + 1, 1, none⟩ v3) := by
  have hne := h.ne
  have hge := h.hm.cur.ge
  have hM : HMs w base c ao n cap po m P eo q L H uo u U vo v V W := ⟨h.hm.cur, h.gr, h.hm.ord, fun a e h0 => by have := h.hm.ordb a e h0; omega, h.hm.edg, fun a e h0 => by have := h.hm.edgb a e h0; omega, h.hm.up, fun a e h0 => by have := h.hm.upb a e h0; omega, h.hm.dn, fun a e h0 => by have := h.hm.dnb a e h0; omega⟩
  have st : ∀ (X Y : World) (y : Nat), w.heap.size ≤ y → y < w.heap.size + 2 → X.grownBy Y (some y) → HMs w base c ao n cap po m P eo q L H uo u U vo v V X → HMs w base c ao n cap po m P eo q L H uo u U vo v V Y := fun X Y y h1 h2 hg hX =>
    hX.other hg h1 (hX.cur.grown hg (by omega) (by omega)) (fun a e h0 => by have := h.hm.ordb a e h0; omega) (fun a e h0 => by have := h.hm.edgb a e h0; omega) (fun a e h0 => by have := h.hm.upb a e h0; omega) (fun a e h0 => by have := h.hm.dnb a e h0; omega)
  exact st _ _ (w.heap.size + 1) (by omega) (by omega) (gr_setCell _ _ _ _) (st _ _ (w.heap.size + 1) (by omega) (by omega) (gr_setCell _ _ _ _) (st _ _ w.heap.size (by omega) (by omega) (gr_setCell _ _ _ _) (st _ _ w.heap.size (by omega) (by omega) (gr_setCell _ _ _ _) hM)))
end

/-- A hierarchy, a metric and two numbers are answered, drawn in new memory. -/
def DrawnHM (w : World) (base c : Nat) (ao : Option Addr) (n cap : Nat) (e : Ending) (w' : World) : Prop := ∃ (po : Option Addr) (m pc : Nat) (P : Nat → Int) (eo : Option Addr) (q ec : Nat) (L H : Nat → Int) (uo : Option Addr) (u uc : Nat) (U : Nat → Int) (vo : Option Addr) (v vc : Nat) (V : Nat → Int) (x y : Int), e = .returned (.tuple #[.agg #[.slice po m pc, .slice eo q ec], .agg #[.slice uo u uc, .slice vo v vc], .int .i64 x, .int .i64 y]) ∧ (m ≤ 24 ∧ q ≤ 217 ∧ u ≤ 1001 ∧ v ≤ 1001) ∧ HMs w base c ao n cap po m P eo q L H uo u U vo v V w'

set_option maxRecDepth 100000 in
set_option maxHeartbeats 8000000 in
theorem l6Draw_any (base c : Nat) (ao : Option Addr) (n cap : Nat) (w : World) (hC : CurAt w base c ao n cap) :
    Calls Try.prog 53 #[.pointer (some ⟨c, 0, none⟩)] w fun e w' => DrawnHM w base c ao n cap e w' := by
  have hcl := hC.lt
  have hge := hC.ge
  have hal1 := (Below.refl w.heap.size w).alloc (Nat.le_refl _) (.cells #[.slice none 0 0, .slice none 0 0] 40)
  have hal2 := (Below.refl _ (w.alloc (.cells #[.slice none 0 0, .slice none 0 0] 40))).alloc (Nat.le_refl _) (.cells #[.slice none 0 0, .slice none 0 0] 42)
  have hC0 := (hC.next hal1).next hal2
  have rh := (hi2_new w (.slice none 0 0) (.slice none 0 0)).next hal2
  have rm := me2_new (w.alloc (.cells #[.slice none 0 0, .slice none 0 0] 40)) (.slice none 0 0) (.slice none 0 0)
  have gr0 : w.grownBy ((w.alloc (.cells #[.slice none 0 0, .slice none 0 0] 40)).alloc (.cells #[.slice none 0 0, .slice none 0 0] 42)) (some c) := (⟨hal1.os, hal1.tape, hal1.output, hal1.size, fun k hk _ => hal1.block k hk⟩ : w.grownBy _ (some c)).trans ⟨hal2.os, hal2.tape, hal2.output, hal2.size, fun k hk _ => hal2.block k hk⟩
  have hz0 : ((w.alloc (.cells #[.slice none 0 0, .slice none 0 0] 40)).alloc (.cells #[.slice none 0 0, .slice none 0 0] 42)).heap.size = w.heap.size + 2 := by simp
  go_enter Try.func53, Try.ntmps53
  go_wp2_with fail
  generalize ((w.alloc (.cells #[.slice none 0 0, .slice none 0 0] 40)).alloc (.cells #[.slice none 0 0, .slice none 0 0] 42)) = W0 at hC0 rh rm gr0 hz0 ⊢
  simp only [World.size_alloc] at rm
  clear hal1 hal2
  refine (l5DrawAny_any base c ao n cap _ hC0).mono ?_
  rintro e w1 ⟨p, go, k, gc, po, m, pc, P, eo, q, ec, L, H, rfl, ⟨hk, hm, hq⟩, hR⟩
  have hs1 := hR.gr.size
  have ha1 := (Below.refl w1.heap.size w1).alloc (Nat.le_refl _) (.cells #[.int .i64 p, .slice go k gc] 32)
  have ha2 := (Below.refl _ (w1.alloc (.cells #[.int .i64 p, .slice go k gc] 32))).alloc (Nat.le_refl _) (.cells #[.slice po m pc, .slice eo q ec] 40)
  replace rh := ((rh.grown hR.gr (by simp; omega)).next ha1).next ha2
  replace rm := ((rm.grown hR.gr (by simp; omega)).next ha1).next ha2
  have hbx := hi2_new (w1.alloc (.cells #[.int .i64 p, .slice go k gc] 32)) (.slice po m pc) (.slice eo q ec)
  have hR2 := (hR.next ha1).next ha2
  have hs2 : ((w1.alloc (.cells #[.int .i64 p, .slice go k gc] 32)).alloc (.cells #[.slice po m pc, .slice eo q ec] 40)).heap.size = w1.heap.size + 2 := by simp
  have q0 : ((w1.alloc (.cells #[.int .i64 p, .slice go k gc] 32)).alloc (.cells #[.slice po m pc, .slice eo q ec] 40)).cell? ⟨w1.heap.size, 0, none⟩ = some (.int .i64 p) := (((gr_new w1 p (.slice go k gc)).next ha2).cell (j := 0) (by omega))
  have q1 : ((w1.alloc (.cells #[.int .i64 p, .slice go k gc] 32)).alloc (.cells #[.slice po m pc, .slice eo q ec] 40)).cell? ⟨w1.heap.size, 1, none⟩ = some (.slice go k gc) := (((gr_new w1 p (.slice go k gc)).next ha2).cell (j := 1) (by omega))
  simp only [World.size_alloc] at hbx
  clear ha1 ha2 hR hC0
  go_wp2_with fail
  generalize ((w1.alloc (.cells #[.int .i64 p, .slice go k gc] 32)).alloc (.cells #[.slice po m pc, .slice eo q ec] 40)) = W2 at rh rm hbx hR2 hs2 q0 q1 ⊢
  obtain ⟨F, T, G, hr2, _⟩ := hR2.arcs.row
  refine (l5DrawMetric_any base c ao n cap p go k gc F T G po m pc P eo q ec L H (by omega) (by omega) (by omega) _ hR2.cur hr2 hR2.ord hR2.edg).mono ?_
  rintro e w3 ⟨uo, u, uc, U, vo, v, vc, V, rfl, ⟨hu, hv⟩, hMm⟩
  have hs3 := hMm.gr.size
  have ha3 := (Below.refl w3.heap.size w3).alloc (Nat.le_refl _) (.cells #[.slice uo u uc, .slice vo v vc] 42)
  have hM3 : HMs W0 base c ao n cap po m P eo q L H uo u U vo v V w3 := ⟨hMm.cur, hR2.gr.trans hMm.gr, hR2.ord.otherE hMm.gr (fun a e h0 => by have := hR2.ordb a e h0; omega), hR2.ordb, hR2.edg.otherE hMm.gr (fun a e h0 => by have := hR2.edgb a e h0; omega), hR2.edgb, hMm.up, fun a e h0 => by have := hMm.upb a e h0; omega, hMm.dn, fun a e h0 => by have := hMm.dnb a e h0; omega⟩
  have hW : LW w W0 base c ao n cap (w1.heap.size + 1) w3.heap.size po m pc P eo q ec L H uo u uc U vo v vc V (w3.alloc (.cells #[.slice uo u uc, .slice vo v vc] 42)) :=
    ⟨hM3.next ha3, ((gr0.trans hR2.gr).trans hMm.gr).trans ⟨ha3.os, ha3.tape, ha3.output, ha3.size, fun k hk _ => ha3.block k hk⟩, (rh.grown hMm.gr (by simp; omega)).next ha3, (rm.grown hMm.gr (by simp; omega)).next ha3, (hbx.grown hMm.gr (by simp; omega)).next ha3, me2_new _ _ _, by omega⟩
  clear ha3 hM3 hMm hR2 rh rm hbx q0 q1 hr2 gr0
  go_wp2_with fail
  generalize (w3.alloc (.cells #[.slice uo u uc, .slice vo v vc] 42)) = W4 at hW ⊢
  obtain ⟨hb, hhb⟩ : ∃ hb, w1.heap.size + 1 = hb := ⟨_, rfl⟩
  simp only [hhb] at hW ⊢
  generalize w3.heap.size = mb at hW hs3 ⊢
  clear hhb
  refine (l1DrawPlace_any base c ao n cap _ hW.hm.cur).mono ?_
  rintro e w5 ⟨x, rfl, hC5, hg5⟩
  replace hW := hW.step hcl hC5 hg5
  clear hC5 hg5
  go_wp2_with fail
  refine (l1DrawPlace_any base c ao n cap _ hW.hm.cur).mono ?_
  rintro e w6 ⟨y, rfl, hC6, hg6⟩
  replace hW := hW.step hcl hC6 hg6
  clear hC6 hg6
  have f0 : w6.cell? ⟨hb, 0, none⟩ = some (.slice po m pc) := hW.hbx.cell (j := 0) (by omega)
  by_cases hm0 : 0 < m
  rotate_left
  · have hm0' : ¬ 0 < (m : Int) := by omega
    clear f0
    have r0 : w6.cell? ⟨w.heap.size, 0, none⟩ = some (.slice none 0 0) := hW.rh.cell (j := 0) (by omega)
    have r1 : w6.cell? ⟨w.heap.size, 1, none⟩ = some (.slice none 0 0) := hW.rh.cell (j := 1) (by omega)
    have r2 : w6.cell? ⟨w.heap.size + 1, 0, none⟩ = some (.slice none 0 0) := hW.rm.cell (j := 0) (by omega)
    have r3 : w6.cell? ⟨w.heap.size + 1, 1, none⟩ = some (.slice none 0 0) := hW.rm.cell (j := 1) (by omega)
    have f0 : w6.cell? ⟨hb, 0, none⟩ = some (.slice po m pc) := hW.hbx.cell (j := 0) (by omega)
    have f1 : w6.cell? ⟨hb, 1, none⟩ = some (.slice eo q ec) := hW.hbx.cell (j := 1) (by omega)
    have e0 : w6.cell? ⟨mb, 0, none⟩ = some (.slice uo u uc) := hW.mbx.cell (j := 0) (by omega)
    have e1 : w6.cell? ⟨mb, 1, none⟩ = some (.slice vo v vc) := hW.mbx.cell (j := 1) (by omega)
    have z0 := hW.rh.frozen 0
    have z1 := hW.rh.frozen 1
    have z2 := hW.rm.frozen 0
    have z3 := hW.rm.frozen 1
    have hne := hW.ne
    have hlr := hW.rm.lt
    go_wp2
    go_region_law (fail)
    all_goals
      go_wp2
      have hO := hW.out hcl (.slice po m pc) (.slice eo q ec) (.slice uo u uc) (.slice vo v vc)
      have d0 : ((((w6.setCell ⟨w.heap.size, 0, none⟩ (.slice po m pc)).setCell ⟨w.heap.size, 1, none⟩ (.slice eo q ec)).setCell ⟨w.heap.size + 1, 0, none⟩ (.slice uo u uc)).setCell ⟨w.heap.size + 1, 1, none⟩ (.slice vo v vc)).cell? ⟨w.heap.size, 0, none⟩ = some (.slice po m pc) := by simp [go_sem, r0, r1, r2, r3]
      have d1 : ((((w6.setCell ⟨w.heap.size, 0, none⟩ (.slice po m pc)).setCell ⟨w.heap.size, 1, none⟩ (.slice eo q ec)).setCell ⟨w.heap.size + 1, 0, none⟩ (.slice uo u uc)).setCell ⟨w.heap.size + 1, 1, none⟩ (.slice vo v vc)).cell? ⟨w.heap.size, 1, none⟩ = some (.slice eo q ec) := by simp [go_sem, r0, r1, r2, r3]
      have d2 : ((((w6.setCell ⟨w.heap.size, 0, none⟩ (.slice po m pc)).setCell ⟨w.heap.size, 1, none⟩ (.slice eo q ec)).setCell ⟨w.heap.size + 1, 0, none⟩ (.slice uo u uc)).setCell ⟨w.heap.size + 1, 1, none⟩ (.slice vo v vc)).cell? ⟨w.heap.size + 1, 0, none⟩ = some (.slice uo u uc) := by simp [go_sem, r0, r1, r2, r3]
      have d3 : ((((w6.setCell ⟨w.heap.size, 0, none⟩ (.slice po m pc)).setCell ⟨w.heap.size, 1, none⟩ (.slice eo q ec)).setCell ⟨w.heap.size + 1, 0, none⟩ (.slice uo u uc)).setCell ⟨w.heap.size + 1, 1, none⟩ (.slice vo v vc)).cell? ⟨w.heap.size + 1, 1, none⟩ = some (.slice vo v vc) := by simp [go_sem, r0, r1, r2, r3]
      generalize ((((w6.setCell ⟨w.heap.size, 0, none⟩ (.slice po m pc)).setCell ⟨w.heap.size, 1, none⟩ (.slice eo q ec)).setCell ⟨w.heap.size + 1, 0, none⟩ (.slice uo u uc)).setCell ⟨w.heap.size + 1, 1, none⟩ (.slice vo v vc)) = WX at hO d0 d1 d2 d3 ⊢
      clear r0 r1 r2 r3 z0 z1 z2 z3
      simp [bodyPost, results, Try.results53, go_sem, d0, d1, d2, d3]
      exact ⟨po, m, pc, P, eo, q, ec, L, H, uo, u, uc, U, vo, v, vc, V, x, y, rfl, by omega, hO.next (Below.refl _ _).drew⟩
  have hm0' : 0 < (m : Int) := by omega
  go_wp2_with fail
  refine (l1Once_any base c ao n cap 5 (by omega) (by omega) _ hW.hm.cur).mono ?_
  rintro e w7 ⟨bx, rfl, hC7, hg7⟩
  replace hW := hW.step hcl hC7 hg7
  clear hC7 hg7 f0
  cases bx
  rotate_left
  · skip
    have r0 : w7.cell? ⟨w.heap.size, 0, none⟩ = some (.slice none 0 0) := hW.rh.cell (j := 0) (by omega)
    have r1 : w7.cell? ⟨w.heap.size, 1, none⟩ = some (.slice none 0 0) := hW.rh.cell (j := 1) (by omega)
    have r2 : w7.cell? ⟨w.heap.size + 1, 0, none⟩ = some (.slice none 0 0) := hW.rm.cell (j := 0) (by omega)
    have r3 : w7.cell? ⟨w.heap.size + 1, 1, none⟩ = some (.slice none 0 0) := hW.rm.cell (j := 1) (by omega)
    have f0 : w7.cell? ⟨hb, 0, none⟩ = some (.slice po m pc) := hW.hbx.cell (j := 0) (by omega)
    have f1 : w7.cell? ⟨hb, 1, none⟩ = some (.slice eo q ec) := hW.hbx.cell (j := 1) (by omega)
    have e0 : w7.cell? ⟨mb, 0, none⟩ = some (.slice uo u uc) := hW.mbx.cell (j := 0) (by omega)
    have e1 : w7.cell? ⟨mb, 1, none⟩ = some (.slice vo v vc) := hW.mbx.cell (j := 1) (by omega)
    have z0 := hW.rh.frozen 0
    have z1 := hW.rh.frozen 1
    have z2 := hW.rm.frozen 0
    have z3 := hW.rm.frozen 1
    have hne := hW.ne
    have hlr := hW.rm.lt
    go_wp2
    go_region_law (fail)
    all_goals
      go_wp2
      have hO := hW.out hcl (.slice po m pc) (.slice eo q ec) (.slice uo u uc) (.slice vo v vc)
      have d0 : ((((w7.setCell ⟨w.heap.size, 0, none⟩ (.slice po m pc)).setCell ⟨w.heap.size, 1, none⟩ (.slice eo q ec)).setCell ⟨w.heap.size + 1, 0, none⟩ (.slice uo u uc)).setCell ⟨w.heap.size + 1, 1, none⟩ (.slice vo v vc)).cell? ⟨w.heap.size, 0, none⟩ = some (.slice po m pc) := by simp [go_sem, r0, r1, r2, r3]
      have d1 : ((((w7.setCell ⟨w.heap.size, 0, none⟩ (.slice po m pc)).setCell ⟨w.heap.size, 1, none⟩ (.slice eo q ec)).setCell ⟨w.heap.size + 1, 0, none⟩ (.slice uo u uc)).setCell ⟨w.heap.size + 1, 1, none⟩ (.slice vo v vc)).cell? ⟨w.heap.size, 1, none⟩ = some (.slice eo q ec) := by simp [go_sem, r0, r1, r2, r3]
      have d2 : ((((w7.setCell ⟨w.heap.size, 0, none⟩ (.slice po m pc)).setCell ⟨w.heap.size, 1, none⟩ (.slice eo q ec)).setCell ⟨w.heap.size + 1, 0, none⟩ (.slice uo u uc)).setCell ⟨w.heap.size + 1, 1, none⟩ (.slice vo v vc)).cell? ⟨w.heap.size + 1, 0, none⟩ = some (.slice uo u uc) := by simp [go_sem, r0, r1, r2, r3]
      have d3 : ((((w7.setCell ⟨w.heap.size, 0, none⟩ (.slice po m pc)).setCell ⟨w.heap.size, 1, none⟩ (.slice eo q ec)).setCell ⟨w.heap.size + 1, 0, none⟩ (.slice uo u uc)).setCell ⟨w.heap.size + 1, 1, none⟩ (.slice vo v vc)).cell? ⟨w.heap.size + 1, 1, none⟩ = some (.slice vo v vc) := by simp [go_sem, r0, r1, r2, r3]
      generalize ((((w7.setCell ⟨w.heap.size, 0, none⟩ (.slice po m pc)).setCell ⟨w.heap.size, 1, none⟩ (.slice eo q ec)).setCell ⟨w.heap.size + 1, 0, none⟩ (.slice uo u uc)).setCell ⟨w.heap.size + 1, 1, none⟩ (.slice vo v vc)) = WX at hO d0 d1 d2 d3 ⊢
      clear r0 r1 r2 r3 z0 z1 z2 z3
      simp [bodyPost, results, Try.results53, go_sem, d0, d1, d2, d3]
      exact ⟨po, m, pc, P, eo, q, ec, L, H, uo, u, uc, U, vo, v, vc, V, x, y, rfl, by omega, hO.next (Below.refl _ _).drew⟩
  go_wp2_with fail
  refine (l1Below_any base c ao n cap m (by omega) (by omega) _ hW.hm.cur).mono ?_
  rintro e w8 ⟨x', rfl, hx', hC8, hg8⟩
  replace hW := hW.step hcl hC8 hg8
  clear hC8 hg8
  go_wp2_with fail
  refine (l1Below_any base c ao n cap m (by omega) (by omega) _ hW.hm.cur).mono ?_
  rintro e w9 ⟨y', rfl, hy', hC9, hg9⟩
  replace hW := hW.step hcl hC9 hg9
  clear hC9 hg9
  have r0 : w9.cell? ⟨w.heap.size, 0, none⟩ = some (.slice none 0 0) := hW.rh.cell (j := 0) (by omega)
  have r1 : w9.cell? ⟨w.heap.size, 1, none⟩ = some (.slice none 0 0) := hW.rh.cell (j := 1) (by omega)
  have r2 : w9.cell? ⟨w.heap.size + 1, 0, none⟩ = some (.slice none 0 0) := hW.rm.cell (j := 0) (by omega)
  have r3 : w9.cell? ⟨w.heap.size + 1, 1, none⟩ = some (.slice none 0 0) := hW.rm.cell (j := 1) (by omega)
  have f0 : w9.cell? ⟨hb, 0, none⟩ = some (.slice po m pc) := hW.hbx.cell (j := 0) (by omega)
  have f1 : w9.cell? ⟨hb, 1, none⟩ = some (.slice eo q ec) := hW.hbx.cell (j := 1) (by omega)
  have e0 : w9.cell? ⟨mb, 0, none⟩ = some (.slice uo u uc) := hW.mbx.cell (j := 0) (by omega)
  have e1 : w9.cell? ⟨mb, 1, none⟩ = some (.slice vo v vc) := hW.mbx.cell (j := 1) (by omega)
  have z0 := hW.rh.frozen 0
  have z1 := hW.rh.frozen 1
  have z2 := hW.rm.frozen 0
  have z3 := hW.rm.frozen 1
  have hne := hW.ne
  have hlr := hW.rm.lt
  go_wp2
  go_region_law (fail)
  all_goals
    go_wp2
    have hO := hW.out hcl (.slice po m pc) (.slice eo q ec) (.slice uo u uc) (.slice vo v vc)
    have d0 : ((((w9.setCell ⟨w.heap.size, 0, none⟩ (.slice po m pc)).setCell ⟨w.heap.size, 1, none⟩ (.slice eo q ec)).setCell ⟨w.heap.size + 1, 0, none⟩ (.slice uo u uc)).setCell ⟨w.heap.size + 1, 1, none⟩ (.slice vo v vc)).cell? ⟨w.heap.size, 0, none⟩ = some (.slice po m pc) := by simp [go_sem, r0, r1, r2, r3]
    have d1 : ((((w9.setCell ⟨w.heap.size, 0, none⟩ (.slice po m pc)).setCell ⟨w.heap.size, 1, none⟩ (.slice eo q ec)).setCell ⟨w.heap.size + 1, 0, none⟩ (.slice uo u uc)).setCell ⟨w.heap.size + 1, 1, none⟩ (.slice vo v vc)).cell? ⟨w.heap.size, 1, none⟩ = some (.slice eo q ec) := by simp [go_sem, r0, r1, r2, r3]
    have d2 : ((((w9.setCell ⟨w.heap.size, 0, none⟩ (.slice po m pc)).setCell ⟨w.heap.size, 1, none⟩ (.slice eo q ec)).setCell ⟨w.heap.size + 1, 0, none⟩ (.slice uo u uc)).setCell ⟨w.heap.size + 1, 1, none⟩ (.slice vo v vc)).cell? ⟨w.heap.size + 1, 0, none⟩ = some (.slice uo u uc) := by simp [go_sem, r0, r1, r2, r3]
    have d3 : ((((w9.setCell ⟨w.heap.size, 0, none⟩ (.slice po m pc)).setCell ⟨w.heap.size, 1, none⟩ (.slice eo q ec)).setCell ⟨w.heap.size + 1, 0, none⟩ (.slice uo u uc)).setCell ⟨w.heap.size + 1, 1, none⟩ (.slice vo v vc)).cell? ⟨w.heap.size + 1, 1, none⟩ = some (.slice vo v vc) := by simp [go_sem, r0, r1, r2, r3]
    generalize ((((w9.setCell ⟨w.heap.size, 0, none⟩ (.slice po m pc)).setCell ⟨w.heap.size, 1, none⟩ (.slice eo q ec)).setCell ⟨w.heap.size + 1, 0, none⟩ (.slice uo u uc)).setCell ⟨w.heap.size + 1, 1, none⟩ (.slice vo v vc)) = WX at hO d0 d1 d2 d3 ⊢
    clear r0 r1 r2 r3 z0 z1 z2 z3
    simp [bodyPost, results, Try.results53, go_sem, d0, d1, d2, d3]
    exact ⟨po, m, pc, P, eo, q, ec, L, H, uo, u, uc, U, vo, v, vc, V, (x' : Int), (y' : Int), rfl, by omega, hO.next (Below.refl _ _).drew⟩

end Go.Proofs.Ytoklneimebhjdab
