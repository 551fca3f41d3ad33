/-
  The document's draws for Meeting and Distance.
-/
import Derived.Test.YtoklneimebhjdabDrawM6P
import Derived.Test.YtoklneimebhjdabPack9
set_option linter.unusedVariables false
set_option linter.unusedSimpArgs false
namespace Go.Proofs.Ytoklneimebhjdab
open Go.RowKit Go.Maps Go.Deep Go.Joins
attribute [local go_sem ↓] Go.wp_at_zero Go.wp_at_succ

/-- What DrawMeeting and DrawDistance answer. -/
def DrawnD (w : World) (e : Ending) (w' : World) : Prop := ∃ (po : Option Addr) (k pc : Nat) (P : Nat → Int) (eo : Option Addr) (m ec : Nat) (L H : Nat → Int) (uo : Option Addr) (u uc : Nat) (U : Nat → Int) (vo : Option Addr) (v vc : Nat) (V : Nat → Int) (x y : Int), e = .returned (.tuple #[.agg #[.slice po k pc, .slice eo m ec], .agg #[.slice uo u uc, .slice vo v vc], .int .i64 x, .int .i64 y]) ∧ (k ≤ 24 ∧ m ≤ 217 ∧ u ≤ 1001 ∧ v ≤ 1001) ∧ (IRow w' po k P ∧ ERow w' eo m L H ∧ IRow w' uo u U ∧ IRow w' vo v V) ∧ ((∀ a, po = some a → 0 < k → w.heap.size ≤ a.block) ∧ (∀ a, eo = some a → 0 < m → w.heap.size ≤ a.block) ∧ (∀ a, uo = some a → 0 < u → w.heap.size ≤ a.block) ∧ (∀ a, vo = some a → 0 < v → w.heap.size ≤ a.block)) ∧ Below w.heap.size w w'
set_option maxRecDepth 100000 in
set_option maxHeartbeats 4000000 in
theorem drawMeeting_any (ao : Option Addr) (n cap : Nat) (hn : n ≤ 4096) (w : World) (hr : ByRow w w.heap.size ao n) :
    Calls Try.prog 42 #[.slice ao n cap] w fun e w' => DrawnD w e w' := by
  have hal1 := (Below.refl w.heap.size w).alloc (Nat.le_refl _) (.cells #[.slice none 0 0, .slice none 0 0] 40)
  have hal2 := (Below.refl _ (w.alloc (.cells #[.slice none 0 0, .slice none 0 0] 40))).alloc (Nat.le_refl _) (.cells #[.slice none 0 0, .slice none 0 0] 42)
  have hB0 := below_next hal1 (Nat.le_refl _) hal2
  have rh := (hi2_new w (.slice none 0 0) (.slice none 0 0)).next hal2
  have rm := me2_new (w.alloc (.cells #[.slice none 0 0, .slice none 0 0] 40)) (.slice none 0 0) (.slice none 0 0)
  have hz0 : ((w.alloc (.cells #[.slice none 0 0, .slice none 0 0] 40)).alloc (.cells #[.slice none 0 0, .slice none 0 0] 42)).heap.size = w.heap.size + 2 := by simp
  go_enter Try.func42, Try.ntmps42
  go_wp2_with fail
  generalize ((w.alloc (.cells #[.slice none 0 0, .slice none 0 0] 40)).alloc (.cells #[.slice none 0 0, .slice none 0 0] 42)) = W0 at hB0 rh rm hz0 ⊢
  simp only [World.size_alloc] at rm
  clear hal1 hal2
  refine (l1New_any ao n cap hn _ (hr.up hB0)).mono ?_
  rintro e w1 ⟨c, rfl, hC1, hb1⟩
  have hcg := hC1.ge
  have hcl := hC1.lt
  have hs1 := hb1.size
  replace rh := rh.next hb1
  replace rm := rm.next hb1
  replace hB0 := below_next hB0 (Nat.le_refl _) hb1
  clear hb1
  go_wp2_with fail
  refine (l6Draw_any _ c ao n cap _ hC1).mono ?_
  rintro e w2 ⟨po, m, pc, P, eo, q, ec, L, H, uo, u, uc, U, vo, v, vc, V, x, y, rfl, ⟨hm, hq, hu, hv⟩, hM⟩
  have hs2 := hM.gr.size
  replace rh := rh.grown hM.gr (by simp; omega)
  replace rm := rm.grown hM.gr (by simp; omega)
  replace hB0 := hB0.trans (gr_below hM.gr (by omega) (by omega))
  have r0 : w2.cell? ⟨w.heap.size, 0, none⟩ = some (.slice none 0 0) := rh.cell (j := 0) (by omega)
  have r1 : w2.cell? ⟨w.heap.size, 1, none⟩ = some (.slice none 0 0) := rh.cell (j := 1) (by omega)
  have r2 : w2.cell? ⟨w.heap.size + 1, 0, none⟩ = some (.slice none 0 0) := rm.cell (j := 0) (by omega)
  have r3 : w2.cell? ⟨w.heap.size + 1, 1, none⟩ = some (.slice none 0 0) := rm.cell (j := 1) (by omega)
  have z0 := rh.frozen 0
  have z1 := rh.frozen 1
  have z2 := rm.frozen 0
  have z3 := rm.frozen 1
  have hlr := rm.lt
  have bd := And.intro hM.ordb (And.intro hM.edgb (And.intro hM.upb hM.dnb))
  go_wp2
  have st : ∀ (X Y : World) (y : Nat), y < w.heap.size + 2 → X.grownBy Y (some y) → (IRow X po m P ∧ ERow X eo q L H ∧ IRow X uo u U ∧ IRow X vo v V) → (IRow Y po m P ∧ ERow Y eo q L H ∧ IRow Y uo u U ∧ IRow Y vo v V) := fun X Y y h2 hg ⟨k1, k2, k3, k4⟩ => ⟨k1.otherE hg (fun a e h0 => by have := bd.1 a e h0; omega), k2.otherE hg (fun a e h0 => by have := bd.2.1 a e h0; omega), k3.otherE hg (fun a e h0 => by have := bd.2.2.1 a e h0; omega), k4.otherE hg (fun a e h0 => by have := bd.2.2.2 a e h0; omega)⟩
  have hO : IRow ((((w2.setCell ⟨w.heap.size, 0, none⟩ (.slice po m pc)).setCell ⟨w.heap.size, 1, none⟩ (.slice eo q ec)).setCell ⟨w.heap.size + 1, 0, none⟩ (.slice uo u uc)).setCell ⟨w.heap.size + 1, 1, none⟩ (.slice vo v vc)) po m P ∧ ERow ((((w2.setCell ⟨w.heap.size, 0, none⟩ (.slice po m pc)).setCell ⟨w.heap.size, 1, none⟩ (.slice eo q ec)).setCell ⟨w.heap.size + 1, 0, none⟩ (.slice uo u uc)).setCell ⟨w.heap.size + 1, 1, none⟩ (.slice vo v vc)) eo q L H ∧ IRow ((((w2.setCell ⟨w.heap.size, 0, none⟩ (.slice po m pc)).setCell ⟨w.heap.size, 1, none⟩ (.slice eo q ec)).setCell ⟨w.heap.size + 1, 0, none⟩ (.slice uo u uc)).setCell ⟨w.heap.size + 1, 1, none⟩ (.slice vo v vc)) uo u U ∧ IRow ((((w2.setCell ⟨w.heap.size, 0, none⟩ (.slice po m pc)).setCell ⟨w.heap.size, 1, none⟩ (.slice eo q ec)).setCell ⟨w.heap.size + 1, 0, none⟩ (.slice uo u uc)).setCell ⟨w.heap.size + 1, 1, none⟩ (.slice vo v vc)) vo v V := st _ _ (w.heap.size + 1) (by omega) (gr_setCell _ _ _ _) (st _ _ (w.heap.size + 1) (by omega) (gr_setCell _ _ _ _) (st _ _ w.heap.size (by omega) (gr_setCell _ _ _ _) (st _ _ w.heap.size (by omega) (gr_setCell _ _ _ _) ⟨hM.ord, hM.edg, hM.up, hM.dn⟩)))
  have hBX : Below w.heap.size w ((((w2.setCell ⟨w.heap.size, 0, none⟩ (.slice po m pc)).setCell ⟨w.heap.size, 1, none⟩ (.slice eo q ec)).setCell ⟨w.heap.size + 1, 0, none⟩ (.slice uo u uc)).setCell ⟨w.heap.size + 1, 1, none⟩ (.slice vo v vc)) := ret_below (ret_below hB0 (Nat.le_refl _) _ _) (by omega) _ _
  have d0 : ((((w2.setCell ⟨w.heap.size, 0, none⟩ (.slice po m pc)).setCell ⟨w.heap.size, 1, none⟩ (.slice eo q ec)).setCell ⟨w.heap.size + 1, 0, none⟩ (.slice uo u uc)).setCell ⟨w.heap.size + 1, 1, none⟩ (.slice vo v vc)).cell? ⟨w.heap.size, 0, none⟩ = some (.slice po m pc) := by simp [go_sem, r0, r1, r2, r3]
  have d1 : ((((w2.setCell ⟨w.heap.size, 0, none⟩ (.slice po m pc)).setCell ⟨w.heap.size, 1, none⟩ (.slice eo q ec)).setCell ⟨w.heap.size + 1, 0, none⟩ (.slice uo u uc)).setCell ⟨w.heap.size + 1, 1, none⟩ (.slice vo v vc)).cell? ⟨w.heap.size, 1, none⟩ = some (.slice eo q ec) := by simp [go_sem, r0, r1, r2, r3]
  have d2 : ((((w2.setCell ⟨w.heap.size, 0, none⟩ (.slice po m pc)).setCell ⟨w.heap.size, 1, none⟩ (.slice eo q ec)).setCell ⟨w.heap.size + 1, 0, none⟩ (.slice uo u uc)).setCell ⟨w.heap.size + 1, 1, none⟩ (.slice vo v vc)).cell? ⟨w.heap.size + 1, 0, none⟩ = some (.slice uo u uc) := by simp [go_sem, r0, r1, r2, r3]
  have d3 : ((((w2.setCell ⟨w.heap.size, 0, none⟩ (.slice po m pc)).setCell ⟨w.heap.size, 1, none⟩ (.slice eo q ec)).setCell ⟨w.heap.size + 1, 0, none⟩ (.slice uo u uc)).setCell ⟨w.heap.size + 1, 1, none⟩ (.slice vo v vc)).cell? ⟨w.heap.size + 1, 1, none⟩ = some (.slice vo v vc) := by simp [go_sem, r0, r1, r2, r3]
  generalize ((((w2.setCell ⟨w.heap.size, 0, none⟩ (.slice po m pc)).setCell ⟨w.heap.size, 1, none⟩ (.slice eo q ec)).setCell ⟨w.heap.size + 1, 0, none⟩ (.slice uo u uc)).setCell ⟨w.heap.size + 1, 1, none⟩ (.slice vo v vc)) = WX at hO hBX d0 d1 d2 d3 ⊢
  clear r0 r1 r2 r3 z0 z1 z2 z3
  simp [bodyPost, results, Try.results42, go_sem, d0, d1, d2, d3]
  exact ⟨po, m, pc, P, eo, q, ec, L, H, uo, u, uc, U, vo, v, vc, V, x, y, rfl, by omega, hO, ⟨fun a e h0 => by have := bd.1 a e h0; omega, fun a e h0 => by have := bd.2.1 a e h0; omega, fun a e h0 => by have := bd.2.2.1 a e h0; omega, fun a e h0 => by have := bd.2.2.2 a e h0; omega⟩, hBX⟩

set_option maxRecDepth 100000 in
set_option maxHeartbeats 4000000 in
theorem drawDistance_any (ao : Option Addr) (n cap : Nat) (hn : n ≤ 4096) (w : World) (hr : ByRow w w.heap.size ao n) :
    Calls Try.prog 15 #[.slice ao n cap] w fun e w' => DrawnD w e w' := by
  have hal1 := (Below.refl w.heap.size w).alloc (Nat.le_refl _) (.cells #[.slice none 0 0, .slice none 0 0] 40)
  have hal2 := (Below.refl _ (w.alloc (.cells #[.slice none 0 0, .slice none 0 0] 40))).alloc (Nat.le_refl _) (.cells #[.slice none 0 0, .slice none 0 0] 42)
  have hB0 := below_next hal1 (Nat.le_refl _) hal2
  have rh := (hi2_new w (.slice none 0 0) (.slice none 0 0)).next hal2
  have rm := me2_new (w.alloc (.cells #[.slice none 0 0, .slice none 0 0] 40)) (.slice none 0 0) (.slice none 0 0)
  have hz0 : ((w.alloc (.cells #[.slice none 0 0, .slice none 0 0] 40)).alloc (.cells #[.slice none 0 0, .slice none 0 0] 42)).heap.size = w.heap.size + 2 := by simp
  go_enter Try.func15, Try.ntmps15
  go_wp2_with fail
  generalize ((w.alloc (.cells #[.slice none 0 0, .slice none 0 0] 40)).alloc (.cells #[.slice none 0 0, .slice none 0 0] 42)) = W0 at hB0 rh rm hz0 ⊢
  simp only [World.size_alloc] at rm
  clear hal1 hal2
  refine (drawMeeting_any ao n cap hn _ (hr.up hB0)).mono ?_
  rintro e w2 ⟨po, m, pc, P, eo, q, ec, L, H, uo, u, uc, U, vo, v, vc, V, x, y, rfl, ⟨hm, hq, hu, hv⟩, hrs, bd, hb1⟩
  replace rh := rh.next hb1
  replace rm := rm.next hb1
  replace hB0 := below_next hB0 (Nat.le_refl _) hb1
  have r0 : w2.cell? ⟨w.heap.size, 0, none⟩ = some (.slice none 0 0) := rh.cell (j := 0) (by omega)
  have r1 : w2.cell? ⟨w.heap.size, 1, none⟩ = some (.slice none 0 0) := rh.cell (j := 1) (by omega)
  have r2 : w2.cell? ⟨w.heap.size + 1, 0, none⟩ = some (.slice none 0 0) := rm.cell (j := 0) (by omega)
  have r3 : w2.cell? ⟨w.heap.size + 1, 1, none⟩ = some (.slice none 0 0) := rm.cell (j := 1) (by omega)
  have z0 := rh.frozen 0
  have z1 := rh.frozen 1
  have z2 := rm.frozen 0
  have z3 := rm.frozen 1
  have hlr := rm.lt
  go_wp2
  have st : ∀ (X Y : World) (y : Nat), y < w.heap.size + 2 → X.grownBy Y (some y) → (IRow X po m P ∧ ERow X eo q L H ∧ IRow X uo u U ∧ IRow X vo v V) → (IRow Y po m P ∧ ERow Y eo q L H ∧ IRow Y uo u U ∧ IRow Y vo v V) := fun X Y y h2 hg ⟨k1, k2, k3, k4⟩ => ⟨k1.otherE hg (fun a e h0 => by have := bd.1 a e h0; omega), k2.otherE hg (fun a e h0 => by have := bd.2.1 a e h0; omega), k3.otherE hg (fun a e h0 => by have := bd.2.2.1 a e h0; omega), k4.otherE hg (fun a e h0 => by have := bd.2.2.2 a e h0; omega)⟩
  have hO : IRow ((((w2.setCell ⟨w.heap.size, 0, none⟩ (.slice po m pc)).setCell ⟨w.heap.size, 1, none⟩ (.slice eo q ec)).setCell ⟨w.heap.size + 1, 0, none⟩ (.slice uo u uc)).setCell ⟨w.heap.size + 1, 1, none⟩ (.slice vo v vc)) po m P ∧ ERow ((((w2.setCell ⟨w.heap.size, 0, none⟩ (.slice po m pc)).setCell ⟨w.heap.size, 1, none⟩ (.slice eo q ec)).setCell ⟨w.heap.size + 1, 0, none⟩ (.slice uo u uc)).setCell ⟨w.heap.size + 1, 1, none⟩ (.slice vo v vc)) eo q L H ∧ IRow ((((w2.setCell ⟨w.heap.size, 0, none⟩ (.slice po m pc)).setCell ⟨w.heap.size, 1, none⟩ (.slice eo q ec)).setCell ⟨w.heap.size + 1, 0, none⟩ (.slice uo u uc)).setCell ⟨w.heap.size + 1, 1, none⟩ (.slice vo v vc)) uo u U ∧ IRow ((((w2.setCell ⟨w.heap.size, 0, none⟩ (.slice po m pc)).setCell ⟨w.heap.size, 1, none⟩ (.slice eo q ec)).setCell ⟨w.heap.size + 1, 0, none⟩ (.slice uo u uc)).setCell ⟨w.heap.size + 1, 1, none⟩ (.slice vo v vc)) vo v V := st _ _ (w.heap.size + 1) (by omega) (gr_setCell _ _ _ _) (st _ _ (w.heap.size + 1) (by omega) (gr_setCell _ _ _ _) (st _ _ w.heap.size (by omega) (gr_setCell _ _ _ _) (st _ _ w.heap.size (by omega) (gr_setCell _ _ _ _) hrs)))
  have hBX : Below w.heap.size w ((((w2.setCell ⟨w.heap.size, 0, none⟩ (.slice po m pc)).setCell ⟨w.heap.size, 1, none⟩ (.slice eo q ec)).setCell ⟨w.heap.size + 1, 0, none⟩ (.slice uo u uc)).setCell ⟨w.heap.size + 1, 1, none⟩ (.slice vo v vc)) := ret_below (ret_below hB0 (Nat.le_refl _) _ _) (by omega) _ _
  have d0 : ((((w2.setCell ⟨w.heap.size, 0, none⟩ (.slice po m pc)).setCell ⟨w.heap.size, 1, none⟩ (.slice eo q ec)).setCell ⟨w.heap.size + 1, 0, none⟩ (.slice uo u uc)).setCell ⟨w.heap.size + 1, 1, none⟩ (.slice vo v vc)).cell? ⟨w.heap.size, 0, none⟩ = some (.slice po m pc) := by simp [go_sem, r0, r1, r2, r3]
  have d1 : ((((w2.setCell ⟨w.heap.size, 0, none⟩ (.slice po m pc)).setCell ⟨w.heap.size, 1, none⟩ (.slice eo q ec)).setCell ⟨w.heap.size + 1, 0, none⟩ (.slice uo u uc)).setCell ⟨w.heap.size + 1, 1, none⟩ (.slice vo v vc)).cell? ⟨w.heap.size, 1, none⟩ = some (.slice eo q ec) := by simp [go_sem, r0, r1, r2, r3]
  have d2 : ((((w2.setCell ⟨w.heap.size, 0, none⟩ (.slice po m pc)).setCell ⟨w.heap.size, 1, none⟩ (.slice eo q ec)).setCell ⟨w.heap.size + 1, 0, none⟩ (.slice uo u uc)).setCell ⟨w.heap.size + 1, 1, none⟩ (.slice vo v vc)).cell? ⟨w.heap.size + 1, 0, none⟩ = some (.slice uo u uc) := by simp [go_sem, r0, r1, r2, r3]
  have d3 : ((((w2.setCell ⟨w.heap.size, 0, none⟩ (.slice po m pc)).setCell ⟨w.heap.size, 1, none⟩ (.slice eo q ec)).setCell ⟨w.heap.size + 1, 0, none⟩ (.slice uo u uc)).setCell ⟨w.heap.size + 1, 1, none⟩ (.slice vo v vc)).cell? ⟨w.heap.size + 1, 1, none⟩ = some (.slice vo v vc) := by simp [go_sem, r0, r1, r2, r3]
  generalize ((((w2.setCell ⟨w.heap.size, 0, none⟩ (.slice po m pc)).setCell ⟨w.heap.size, 1, none⟩ (.slice eo q ec)).setCell ⟨w.heap.size + 1, 0, none⟩ (.slice uo u uc)).setCell ⟨w.heap.size + 1, 1, none⟩ (.slice vo v vc)) = WX at hO hBX d0 d1 d2 d3 ⊢
  clear r0 r1 r2 r3 z0 z1 z2 z3
  simp [bodyPost, results, Try.results15, go_sem, d0, d1, d2, d3]
  exact ⟨po, m, pc, P, eo, q, ec, L, H, uo, u, uc, U, vo, v, vc, V, x, y, rfl, by omega, hO, ⟨fun a e h0 => by have := bd.1 a e h0; omega, fun a e h0 => by have := bd.2.1 a e h0; omega, fun a e h0 => by have := bd.2.2.1 a e h0; omega, fun a e h0 => by have := bd.2.2.2 a e h0; omega⟩, hBX⟩

end Go.Proofs.Ytoklneimebhjdab
