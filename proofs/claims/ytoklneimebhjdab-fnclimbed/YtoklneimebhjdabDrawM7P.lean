/-
  The document's draw for Climb.
-/
import Derived.Test.YtoklneimebhjdabDrawM6P
import Derived.Test.YtoklneimebhjdabPack9
set_option linter.unusedVariables false
set_option linter.unusedSimpArgs false
namespace Go.Proofs.Ytoklneimebhjdab
open Go.RowKit Go.Maps Go.Deep Go.Joins
attribute [local go_sem ↓] Go.wp_at_zero Go.wp_at_succ

/-- What DrawClimb answers. -/
def DrawnC (w : World) (e : Ending) (w' : World) : Prop := ∃ (po : Option Addr) (k pc : Nat) (P : Nat → Int) (eo : Option Addr) (m ec : Nat) (L H : Nat → Int) (uo : Option Addr) (u uc : Nat) (U : Nat → Int) (vo : Option Addr) (v vc : Nat) (V : Nat → Int) (r : Int) (bk : Bool), e = .returned (.tuple #[.agg #[.slice po k pc, .slice eo m ec], .agg #[.slice uo u uc, .slice vo v vc], .int .i64 r, .bool bk]) ∧ (k ≤ 24 ∧ m ≤ 217 ∧ u ≤ 1001 ∧ v ≤ 1001) ∧ IRow w' po k P ∧ ERow w' eo m L H ∧ IRow w' uo u U ∧ IRow w' vo v V ∧ Below w.heap.size w w'
set_option maxRecDepth 100000 in
set_option maxHeartbeats 4000000 in
theorem drawClimb_any (ao : Option Addr) (n cap : Nat) (hn : n ≤ 4096) (w : World) (hr : ByRow w w.heap.size ao n) :
    Calls Try.prog 23 #[.slice ao n cap] w fun e w' => DrawnC w e w' := by
  have hal1 := (Below.refl w.heap.size w).alloc (Nat.le_refl _) (.cells #[.slice none 0 0, .slice none 0 0] 40)
  have hal2 := (Below.refl _ (w.alloc (.cells #[.slice none 0 0, .slice none 0 0] 40))).alloc (Nat.le_refl _) (.cells #[.slice none 0 0, .slice none 0 0] 42)
  have hB0 := below_next hal1 (Nat.le_refl _) hal2
  have rh := (hi2_new w (.slice none 0 0) (.slice none 0 0)).next hal2
  have rm := me2_new (w.alloc (.cells #[.slice none 0 0, .slice none 0 0] 40)) (.slice none 0 0) (.slice none 0 0)
  have hz0 : ((w.alloc (.cells #[.slice none 0 0, .slice none 0 0] 40)).alloc (.cells #[.slice none 0 0, .slice none 0 0] 42)).heap.size = w.heap.size + 2 := by simp
  go_enter Try.func23, Try.ntmps23
  go_wp2_with fail
  generalize ((w.alloc (.cells #[.slice none 0 0, .slice none 0 0] 40)).alloc (.cells #[.slice none 0 0, .slice none 0 0] 42)) = W0 at hB0 rh rm hz0 ⊢
  simp only [World.size_alloc] at rm
  clear hal1 hal2
  refine (l1New_any ao n cap hn _ (hr.up hB0)).mono ?_
  rintro e w1 ⟨c, rfl, hC1, hb1⟩
  have hcg := hC1.ge
  have hcl := hC1.lt
  have hs1 := hb1.size
  replace rh := rh.next hb1
  replace rm := rm.next hb1
  replace hB0 := below_next hB0 (Nat.le_refl _) hb1
  clear hb1
  go_wp2_with fail
  refine (l6Draw_any _ c ao n cap _ hC1).mono ?_
  rintro e w2 ⟨po, m, pc, P, eo, q, ec, L, H, uo, u, uc, U, vo, v, vc, V, x, y, rfl, ⟨hm, hq, hu, hv⟩, hM⟩
  have hs2 := hM.gr.size
  replace rh := rh.grown hM.gr (by simp; omega)
  replace rm := rm.grown hM.gr (by simp; omega)
  replace hB0 := hB0.trans (gr_below hM.gr (by omega) (by omega))
  have ha1 := (Below.refl w2.heap.size w2).alloc (Nat.le_refl _) (.cells #[.slice po m pc, .slice eo q ec] 40)
  have ha2 := (Below.refl _ (w2.alloc (.cells #[.slice po m pc, .slice eo q ec] 40))).alloc (Nat.le_refl _) (.cells #[.slice uo u uc, .slice vo v vc] 42)
  replace rh := (rh.next ha1).next ha2
  replace rm := (rm.next ha1).next ha2
  have Ha := (hi2_new w2 (.slice po m pc) (.slice eo q ec)).next ha2
  have Ma := me2_new (w2.alloc (.cells #[.slice po m pc, .slice eo q ec] 40)) (.slice uo u uc) (.slice vo v vc)
  simp only [World.size_alloc] at Ma
  replace hM := (hM.next ha1).next ha2
  have hszB := hB0.size
  replace hB0 := (hB0.trans (ha1.mono hszB)).trans (ha2.mono (by simp; omega))
  have hs3 : ((w2.alloc (.cells #[.slice po m pc, .slice eo q ec] 40)).alloc (.cells #[.slice uo u uc, .slice vo v vc] 42)).heap.size = w2.heap.size + 2 := by simp
  clear ha1 ha2
  go_wp2_with fail
  generalize ((w2.alloc (.cells #[.slice po m pc, .slice eo q ec] 40)).alloc (.cells #[.slice uo u uc, .slice vo v vc] 42)) = W3 at rh rm Ha Ma hM hB0 hs3 ⊢
  obtain ⟨mb, hmb⟩ : ∃ mb, w2.heap.size + 1 = mb := ⟨_, rfl⟩
  simp only [hmb] at Ma ⊢
  obtain ⟨hb, hhb⟩ : ∃ hb, w2.heap.size = hb := ⟨_, rfl⟩
  rw [hhb] at hmb hs2 hs3
  simp only [hhb] at Ha ⊢
  have a0 : W3.cell? ⟨hb, 0, none⟩ = some (.slice po m pc) := Ha.cell (j := 0) (by omega)
  have a1 : W3.cell? ⟨hb, 1, none⟩ = some (.slice eo q ec) := Ha.cell (j := 1) (by omega)
  have a2 : W3.cell? ⟨mb, 0, none⟩ = some (.slice uo u uc) := Ma.cell (j := 0) (by omega)
  have a3 : W3.cell? ⟨mb, 1, none⟩ = some (.slice vo v vc) := Ma.cell (j := 1) (by omega)
  have hMd := hM.next (Below.refl W3.heap.size W3).drew
  have rhd := rh.next (Below.refl W3.heap.size W3).drew
  have rmd := rm.next (Below.refl W3.heap.size W3).drew
  have Had := Ha.next (Below.refl W3.heap.size W3).drew
  have Mad := Ma.next (Below.refl W3.heap.size W3).drew
  have hBd := hB0.drew
  go_region_law (first
    | (go_simp; go_at_call 54; refine (l1Once_any _ c ao n cap 2 (by omega) (by omega) _ hMd.cur).mono ?_; rintro e w4 ⟨bk, rfl, hC4, hg4⟩; have hM4 := hMd.step (by omega) hC4 hg4; have rh4 := rhd.grown hg4 (by simp; omega); have rm4 := rmd.grown hg4 (by simp; omega); have Hb := Had.grown hg4 (by simp; omega); have Mb := Mad.grown hg4 (by simp; omega); have b0 : w4.cell? ⟨hb, 0, none⟩ = some (.slice po m pc) := Hb.cell (j := 0) (by omega); have b1 : w4.cell? ⟨hb, 1, none⟩ = some (.slice eo q ec) := Hb.cell (j := 1) (by omega); have b2 : w4.cell? ⟨mb, 0, none⟩ = some (.slice uo u uc) := Mb.cell (j := 0) (by omega); have b3 : w4.cell? ⟨mb, 1, none⟩ = some (.slice vo v vc) := Mb.cell (j := 1) (by omega); have r0 : w4.cell? ⟨w.heap.size, 0, none⟩ = some (.slice none 0 0) := rh4.cell (j := 0) (by omega); have r1 : w4.cell? ⟨w.heap.size, 1, none⟩ = some (.slice none 0 0) := rh4.cell (j := 1) (by omega); have r2 : w4.cell? ⟨w.heap.size + 1, 0, none⟩ = some (.slice none 0 0) := rm4.cell (j := 0) (by omega); have r3 : w4.cell? ⟨w.heap.size + 1, 1, none⟩ = some (.slice none 0 0) := rm4.cell (j := 1) (by omega); have z0 := rh4.frozen 0; have z1 := rh4.frozen 1; have z2 := rm4.frozen 0; have z3 := rm4.frozen 1; have hlr := rm4.lt; have hB4 := hBd.trans (gr_below hg4 (by omega) (by have := hBd.size; omega))))
  all_goals
    go_wp2
    have st : ∀ (X Y : World) (y : Nat), y < w.heap.size + 2 → X.grownBy Y (some y) → (IRow X po m P ∧ ERow X eo q L H ∧ IRow X uo u U ∧ IRow X vo v V) → (IRow Y po m P ∧ ERow Y eo q L H ∧ IRow Y uo u U ∧ IRow Y vo v V) := fun X Y y h2 hg ⟨k1, k2, k3, k4⟩ => ⟨k1.otherE hg (fun a e h0 => by have := hM4.ordb a e h0; omega), k2.otherE hg (fun a e h0 => by have := hM4.edgb a e h0; omega), k3.otherE hg (fun a e h0 => by have := hM4.upb a e h0; omega), k4.otherE hg (fun a e h0 => by have := hM4.dnb a e h0; omega)⟩
    have hO : IRow ((((w4.setCell ⟨w.heap.size, 0, none⟩ (.slice po m pc)).setCell ⟨w.heap.size, 1, none⟩ (.slice eo q ec)).setCell ⟨w.heap.size + 1, 0, none⟩ (.slice uo u uc)).setCell ⟨w.heap.size + 1, 1, none⟩ (.slice vo v vc)) po m P ∧ ERow ((((w4.setCell ⟨w.heap.size, 0, none⟩ (.slice po m pc)).setCell ⟨w.heap.size, 1, none⟩ (.slice eo q ec)).setCell ⟨w.heap.size + 1, 0, none⟩ (.slice uo u uc)).setCell ⟨w.heap.size + 1, 1, none⟩ (.slice vo v vc)) eo q L H ∧ IRow ((((w4.setCell ⟨w.heap.size, 0, none⟩ (.slice po m pc)).setCell ⟨w.heap.size, 1, none⟩ (.slice eo q ec)).setCell ⟨w.heap.size + 1, 0, none⟩ (.slice uo u uc)).setCell ⟨w.heap.size + 1, 1, none⟩ (.slice vo v vc)) uo u U ∧ IRow ((((w4.setCell ⟨w.heap.size, 0, none⟩ (.slice po m pc)).setCell ⟨w.heap.size, 1, none⟩ (.slice eo q ec)).setCell ⟨w.heap.size + 1, 0, none⟩ (.slice uo u uc)).setCell ⟨w.heap.size + 1, 1, none⟩ (.slice vo v vc)) vo v V := st _ _ (w.heap.size + 1) (by omega) (gr_setCell _ _ _ _) (st _ _ (w.heap.size + 1) (by omega) (gr_setCell _ _ _ _) (st _ _ w.heap.size (by omega) (gr_setCell _ _ _ _) (st _ _ w.heap.size (by omega) (gr_setCell _ _ _ _) ⟨hM4.ord, hM4.edg, hM4.up, hM4.dn⟩)))
    have hBX : Below w.heap.size w ((((w4.setCell ⟨w.heap.size, 0, none⟩ (.slice po m pc)).setCell ⟨w.heap.size, 1, none⟩ (.slice eo q ec)).setCell ⟨w.heap.size + 1, 0, none⟩ (.slice uo u uc)).setCell ⟨w.heap.size + 1, 1, none⟩ (.slice vo v vc)) := ret_below (ret_below hB4 (Nat.le_refl _) _ _) (by omega) _ _
    have d0 : ((((w4.setCell ⟨w.heap.size, 0, none⟩ (.slice po m pc)).setCell ⟨w.heap.size, 1, none⟩ (.slice eo q ec)).setCell ⟨w.heap.size + 1, 0, none⟩ (.slice uo u uc)).setCell ⟨w.heap.size + 1, 1, none⟩ (.slice vo v vc)).cell? ⟨w.heap.size, 0, none⟩ = some (.slice po m pc) := by simp [go_sem, r0, r1, r2, r3]
    have d1 : ((((w4.setCell ⟨w.heap.size, 0, none⟩ (.slice po m pc)).setCell ⟨w.heap.size, 1, none⟩ (.slice eo q ec)).setCell ⟨w.heap.size + 1, 0, none⟩ (.slice uo u uc)).setCell ⟨w.heap.size + 1, 1, none⟩ (.slice vo v vc)).cell? ⟨w.heap.size, 1, none⟩ = some (.slice eo q ec) := by simp [go_sem, r0, r1, r2, r3]
    have d2 : ((((w4.setCell ⟨w.heap.size, 0, none⟩ (.slice po m pc)).setCell ⟨w.heap.size, 1, none⟩ (.slice eo q ec)).setCell ⟨w.heap.size + 1, 0, none⟩ (.slice uo u uc)).setCell ⟨w.heap.size + 1, 1, none⟩ (.slice vo v vc)).cell? ⟨w.heap.size + 1, 0, none⟩ = some (.slice uo u uc) := by simp [go_sem, r0, r1, r2, r3]
    have d3 : ((((w4.setCell ⟨w.heap.size, 0, none⟩ (.slice po m pc)).setCell ⟨w.heap.size, 1, none⟩ (.slice eo q ec)).setCell ⟨w.heap.size + 1, 0, none⟩ (.slice uo u uc)).setCell ⟨w.heap.size + 1, 1, none⟩ (.slice vo v vc)).cell? ⟨w.heap.size + 1, 1, none⟩ = some (.slice vo v vc) := by simp [go_sem, r0, r1, r2, r3]
    generalize ((((w4.setCell ⟨w.heap.size, 0, none⟩ (.slice po m pc)).setCell ⟨w.heap.size, 1, none⟩ (.slice eo q ec)).setCell ⟨w.heap.size + 1, 0, none⟩ (.slice uo u uc)).setCell ⟨w.heap.size + 1, 1, none⟩ (.slice vo v vc)) = WX at hO hBX d0 d1 d2 d3 ⊢
    clear r0 r1 r2 r3 z0 z1 z2 z3
    simp [bodyPost, results, Try.results23, go_sem, d0, d1, d2, d3]
    exact ⟨po, m, pc, P, eo, q, ec, L, H, uo, u, uc, U, vo, v, vc, V, x, bk, rfl, by omega, hO.1, hO.2.1, hO.2.2.1, hO.2.2.2, hBX⟩

end Go.Proofs.Ytoklneimebhjdab
