/-
  The document's draw of a map and its hierarchy, right or not: the walk.
-/
import Derived.Test.YteibbknpcgcjjabDrawH6P
set_option linter.unusedVariables false
set_option linter.unusedSimpArgs false
namespace Go.Proofs.Yteibbknpcgcjjab
open Go.RowKit Go.Maps Go.Deep Go.Joins
attribute [local go_sem ↓] Go.wp_at_zero Go.wp_at_succ

/-- A map and a hierarchy are answered, drawn in new memory. -/
def DrawnGH (w : World) (base c : Nat) (ao : Option Addr) (n cap : Nat) (e : Ending) (w' : World) : Prop := ∃ (p : Int) (go : Option Addr) (k gc : Nat) (po : Option Addr) (m pc : Nat) (P : Nat → Int) (eo : Option Addr) (q ec : Nat) (L H : Nat → Int), e = .returned (.tuple #[.agg #[.int .i64 p, .slice go k gc], .agg #[.slice po m pc, .slice eo q ec]]) ∧ (k ≤ 200 ∧ m ≤ 24 ∧ q ≤ 217 ∧ q ≤ ec) ∧ HR w base c ao n cap go k gc po m P eo q L H w'

set_option maxRecDepth 100000 in
set_option maxHeartbeats 8000000 in
theorem l5DrawAny_any (base c : Nat) (ao : Option Addr) (n cap : Nat) (w : World) (hC : CurAt w base c ao n cap) :
    Calls Try.prog 58 #[.pointer (some ⟨c, 0, none⟩)] w fun e w' => DrawnGH w base c ao n cap e w' := by
  have hcl := hC.lt
  have hge := hC.ge
  have hal1 := (Below.refl w.heap.size w).alloc (Nat.le_refl _) (.cells #[.int .i64 0, .slice none 0 0] 32)
  have hal2 := (Below.refl _ (w.alloc (.cells #[.int .i64 0, .slice none 0 0] 32))).alloc (Nat.le_refl _) (.cells #[.slice none 0 0, .slice none 0 0] 40)
  have hC0 := (hC.next hal1).next hal2
  have rg := (gr_new w 0 (.slice none 0 0)).next hal2
  have rh := hi2_new (w.alloc (.cells #[.int .i64 0, .slice none 0 0] 32)) (.slice none 0 0) (.slice none 0 0)
  have gr0 : w.grownBy ((w.alloc (.cells #[.int .i64 0, .slice none 0 0] 32)).alloc (.cells #[.slice none 0 0, .slice none 0 0] 40)) (some c) := (⟨hal1.os, hal1.tape, hal1.output, hal1.size, fun k hk _ => hal1.block k hk⟩ : w.grownBy _ (some c)).trans ⟨hal2.os, hal2.tape, hal2.output, hal2.size, fun k hk _ => hal2.block k hk⟩
  have hz0 : ((w.alloc (.cells #[.int .i64 0, .slice none 0 0] 32)).alloc (.cells #[.slice none 0 0, .slice none 0 0] 40)).heap.size = w.heap.size + 2 := by simp
  go_enter Try.func58, Try.ntmps58
  go_wp2_with fail
  generalize ((w.alloc (.cells #[.int .i64 0, .slice none 0 0] 32)).alloc (.cells #[.slice none 0 0, .slice none 0 0] 40)) = W0 at hC0 rg rh gr0 hz0 ⊢
  simp only [World.size_alloc] at rh
  clear hal1 hal2
  refine (l5Draw_any base c ao n cap _ hC0).mono ?_
  rintro e w1 ⟨p, go, k, gc, po, m, pc, P, eo, ec, l, rfl, ⟨hk, hm, hl⟩, hD⟩
  have hs1 := hD.gr.size
  have ha1 := (Below.refl w1.heap.size w1).alloc (Nat.le_refl _) (.cells #[.int .i64 p, .slice go k gc] 32)
  have ha2 := (Below.refl _ (w1.alloc (.cells #[.int .i64 p, .slice go k gc] 32))).alloc (Nat.le_refl _) (.cells #[.slice po m pc, .slice eo l.length ec] 40)
  have hO : ∀ a, po = some a → 0 < m → w.heap.size + 2 ≤ a.block ∧ a.block ≠ w1.heap.size ∧ a.block ≠ w1.heap.size + 1 := fun a e h0 => by
    have h1 := hD.ordb a e h0
    obtain ⟨b9, o9, e9, c9⟩ := hD.ord 0 h0
    rw [e] at e9
    cases e9
    have h2 := lt_of_cell c9
    simp only at h1 ⊢
    omega
  have hW : HW w base c ao n cap w1.heap.size (w1.heap.size + 1) p go k gc po m pc P eo ec l ((w1.alloc (.cells #[.int .i64 p, .slice go k gc] 32)).alloc (.cells #[.slice po m pc, .slice eo l.length ec] 40)) :=
    ⟨(hD.cur.next ha1).next ha2, ((gr0.trans hD.gr).trans ⟨ha1.os, ha1.tape, ha1.output, ha1.size, fun k hk _ => ha1.block k hk⟩).trans ⟨ha2.os, ha2.tape, ha2.output, ha2.size, fun k hk _ => ha2.block k hk⟩, ((rg.grown hD.gr (by simp; omega)).next ha1).next ha2, ((rh.grown hD.gr (by simp; omega)).next ha1).next ha2, (gr_new w1 p (.slice go k gc)).next ha2, by have := hi2_new (w1.alloc (.cells #[.int .i64 p, .slice go k gc] 32)) (.slice po m pc) (.slice eo l.length ec); simpa only [World.size_alloc] using this, ((hD.arcs.from (by omega)).next ha1).next ha2, (hD.ord.below ha1 (Nat.le_refl _)).below ha2 (Nat.le_refl _), hO, ((hD.edg.from (by omega)).next ha1).next ha2, by omega, hD.sep⟩
  have hs2 : ((w1.alloc (.cells #[.int .i64 p, .slice go k gc] 32)).alloc (.cells #[.slice po m pc, .slice eo l.length ec] 40)).heap.size = w1.heap.size + 2 := by simp
  clear ha1 ha2 hO hD rg rh gr0 hC0
  go_wp2_with fail
  generalize ((w1.alloc (.cells #[.int .i64 p, .slice go k gc] 32)).alloc (.cells #[.slice po m pc, .slice eo l.length ec] 40)) = W2 at hW hs2 ⊢
  generalize w1.heap.size = gb at hW hs1 hs2 ⊢
  refine (l1Once_any base c ao n cap 12 (by omega) (by omega) _ hW.cur).mono ?_
  rintro e w3 ⟨bx, rfl, hC3, hg3⟩
  replace hW := hW.step hcl hC3 hg3
  have hs3 := hg3.size
  clear hC3 hg3
  cases bx
  · skip
    have HBX := hW.hbx
    have GBX := hW.gbx
    have r0 : w3.cell? ⟨w.heap.size, 0, none⟩ = some (.int .i64 0) := hW.rg.cell (j := 0) (by omega)
    have r1 : w3.cell? ⟨w.heap.size, 1, none⟩ = some (.slice none 0 0) := hW.rg.cell (j := 1) (by omega)
    have r2 : w3.cell? ⟨w.heap.size + 1, 0, none⟩ = some (.slice none 0 0) := hW.rh.cell (j := 0) (by omega)
    have r3 : w3.cell? ⟨w.heap.size + 1, 1, none⟩ = some (.slice none 0 0) := hW.rh.cell (j := 1) (by omega)
    have f0 : w3.cell? ⟨gb + 1, 0, none⟩ = some (.slice po m pc) := HBX.cell (j := 0) (by omega)
    have f1 : w3.cell? ⟨gb + 1, 1, none⟩ = some (.slice eo (l).length ec) := HBX.cell (j := 1) (by omega)
    have e0 : w3.cell? ⟨gb, 0, none⟩ = some (.int .i64 p) := GBX.cell (j := 0) (by omega)
    have e1 : w3.cell? ⟨gb, 1, none⟩ = some (.slice go k gc) := GBX.cell (j := 1) (by omega)
    have z0 := hW.rg.frozen 0
    have z1 := hW.rg.frozen 1
    have z2 := hW.rh.frozen 0
    have z3 := hW.rh.frozen 1
    have hne := hW.ne
    have hlr := hW.rh.lt
    go_wp2
    go_region_law (fail)
    all_goals
      go_wp2
      have hO := hW.out hcl (.int .i64 p) (.slice go k gc) (.slice po m pc) (.slice eo (l).length ec)
      have d0 : ((((w3.setCell ⟨w.heap.size, 0, none⟩ (.int .i64 p)).setCell ⟨w.heap.size, 1, none⟩ (.slice go k gc)).setCell ⟨w.heap.size + 1, 0, none⟩ (.slice po m pc)).setCell ⟨w.heap.size + 1, 1, none⟩ (.slice eo (l).length ec)).cell? ⟨w.heap.size, 0, none⟩ = some (.int .i64 p) := by simp [go_sem, r0, r1, r2, r3]
      have d1 : ((((w3.setCell ⟨w.heap.size, 0, none⟩ (.int .i64 p)).setCell ⟨w.heap.size, 1, none⟩ (.slice go k gc)).setCell ⟨w.heap.size + 1, 0, none⟩ (.slice po m pc)).setCell ⟨w.heap.size + 1, 1, none⟩ (.slice eo (l).length ec)).cell? ⟨w.heap.size, 1, none⟩ = some (.slice go k gc) := by simp [go_sem, r0, r1, r2, r3]
      have d2 : ((((w3.setCell ⟨w.heap.size, 0, none⟩ (.int .i64 p)).setCell ⟨w.heap.size, 1, none⟩ (.slice go k gc)).setCell ⟨w.heap.size + 1, 0, none⟩ (.slice po m pc)).setCell ⟨w.heap.size + 1, 1, none⟩ (.slice eo (l).length ec)).cell? ⟨w.heap.size + 1, 0, none⟩ = some (.slice po m pc) := by simp [go_sem, r0, r1, r2, r3]
      have d3 : ((((w3.setCell ⟨w.heap.size, 0, none⟩ (.int .i64 p)).setCell ⟨w.heap.size, 1, none⟩ (.slice go k gc)).setCell ⟨w.heap.size + 1, 0, none⟩ (.slice po m pc)).setCell ⟨w.heap.size + 1, 1, none⟩ (.slice eo (l).length ec)).cell? ⟨w.heap.size + 1, 1, none⟩ = some (.slice eo (l).length ec) := by simp [go_sem, r0, r1, r2, r3]
      generalize ((((w3.setCell ⟨w.heap.size, 0, none⟩ (.int .i64 p)).setCell ⟨w.heap.size, 1, none⟩ (.slice go k gc)).setCell ⟨w.heap.size + 1, 0, none⟩ (.slice po m pc)).setCell ⟨w.heap.size + 1, 1, none⟩ (.slice eo (l).length ec)) = WX at hO d0 d1 d2 d3 ⊢
      clear r0 r1 r2 r3 z0 z1 z2 z3
      simp [bodyPost, results, Try.results58, go_sem, d0, d1, d2, d3]
      exact ⟨p, go, k, gc, po, m, pc, P, eo, (l).length, ec, _, _, rfl, by have := hO.edg.room; first | omega | (simp; omega), hO.hr.next (Below.refl _ _).drew⟩
  go_wp2_with fail
  refine (l1Below_any base c ao n cap 4 (by omega) (by omega) _ hW.cur).mono ?_
  rintro e w4 ⟨z, rfl, hz, hC4, hg4⟩
  replace hW := hW.step hcl hC4 hg4
  have hs4 := hg4.size
  clear hC4 hg4
  have hz4 : z = 0 ∨ z = 1 ∨ z = 2 ∨ z = 3 := by omega
  rcases hz4 with rfl | rfl | rfl | rfl
  · go_wp2_with fail
    refine (l1DrawAny_any base c ao n cap _ hW.cur).mono ?_
    rintro e w5 ⟨p', go', k', gc', rfl, hk', hA5, hC5, hg5⟩
    have hs4' := hW.hbx.lt
    have hne := hW.ne
    replace hW := hW.step hcl hC5 hg5
    clear hC5 hg5
    have e0 : w5.cell? ⟨gb, 0, none⟩ = some (.int .i64 p) := hW.gbx.cell (j := 0) (by omega)
    have e1 : w5.cell? ⟨gb, 1, none⟩ = some (.slice go k gc) := hW.gbx.cell (j := 1) (by omega)
    have y0 := hW.gbx.frozen 0
    have y1 := hW.gbx.frozen 1
    replace hW := hW.setG hcl (p' := p') (hA5.from (by omega))
    go_wp2
    generalize ((w5.setCell ⟨gb, 0, none⟩ (.int .i64 p')).setCell ⟨gb, 1, none⟩ (.slice go' k' gc')) = W6 at hW ⊢
    clear e0 e1 y0 y1 hne
    have HBX := hW.hbx
    have GBX := hW.gbx
    have r0 : W6.cell? ⟨w.heap.size, 0, none⟩ = some (.int .i64 0) := hW.rg.cell (j := 0) (by omega)
    have r1 : W6.cell? ⟨w.heap.size, 1, none⟩ = some (.slice none 0 0) := hW.rg.cell (j := 1) (by omega)
    have r2 : W6.cell? ⟨w.heap.size + 1, 0, none⟩ = some (.slice none 0 0) := hW.rh.cell (j := 0) (by omega)
    have r3 : W6.cell? ⟨w.heap.size + 1, 1, none⟩ = some (.slice none 0 0) := hW.rh.cell (j := 1) (by omega)
    have f0 : W6.cell? ⟨gb + 1, 0, none⟩ = some (.slice po m pc) := HBX.cell (j := 0) (by omega)
    have f1 : W6.cell? ⟨gb + 1, 1, none⟩ = some (.slice eo (l).length ec) := HBX.cell (j := 1) (by omega)
    have e0 : W6.cell? ⟨gb, 0, none⟩ = some (.int .i64 p') := GBX.cell (j := 0) (by omega)
    have e1 : W6.cell? ⟨gb, 1, none⟩ = some (.slice go' k' gc') := GBX.cell (j := 1) (by omega)
    have z0 := hW.rg.frozen 0
    have z1 := hW.rg.frozen 1
    have z2 := hW.rh.frozen 0
    have z3 := hW.rh.frozen 1
    have hne := hW.ne
    have hlr := hW.rh.lt
    go_wp2
    go_region_law (fail)
    all_goals
      go_wp2
      have hO := hW.out hcl (.int .i64 p') (.slice go' k' gc') (.slice po m pc) (.slice eo (l).length ec)
      have d0 : ((((W6.setCell ⟨w.heap.size, 0, none⟩ (.int .i64 p')).setCell ⟨w.heap.size, 1, none⟩ (.slice go' k' gc')).setCell ⟨w.heap.size + 1, 0, none⟩ (.slice po m pc)).setCell ⟨w.heap.size + 1, 1, none⟩ (.slice eo (l).length ec)).cell? ⟨w.heap.size, 0, none⟩ = some (.int .i64 p') := by simp [go_sem, r0, r1, r2, r3]
      have d1 : ((((W6.setCell ⟨w.heap.size, 0, none⟩ (.int .i64 p')).setCell ⟨w.heap.size, 1, none⟩ (.slice go' k' gc')).setCell ⟨w.heap.size + 1, 0, none⟩ (.slice po m pc)).setCell ⟨w.heap.size + 1, 1, none⟩ (.slice eo (l).length ec)).cell? ⟨w.heap.size, 1, none⟩ = some (.slice go' k' gc') := by simp [go_sem, r0, r1, r2, r3]
      have d2 : ((((W6.setCell ⟨w.heap.size, 0, none⟩ (.int .i64 p')).setCell ⟨w.heap.size, 1, none⟩ (.slice go' k' gc')).setCell ⟨w.heap.size + 1, 0, none⟩ (.slice po m pc)).setCell ⟨w.heap.size + 1, 1, none⟩ (.slice eo (l).length ec)).cell? ⟨w.heap.size + 1, 0, none⟩ = some (.slice po m pc) := by simp [go_sem, r0, r1, r2, r3]
      have d3 : ((((W6.setCell ⟨w.heap.size, 0, none⟩ (.int .i64 p')).setCell ⟨w.heap.size, 1, none⟩ (.slice go' k' gc')).setCell ⟨w.heap.size + 1, 0, none⟩ (.slice po m pc)).setCell ⟨w.heap.size + 1, 1, none⟩ (.slice eo (l).length ec)).cell? ⟨w.heap.size + 1, 1, none⟩ = some (.slice eo (l).length ec) := by simp [go_sem, r0, r1, r2, r3]
      generalize ((((W6.setCell ⟨w.heap.size, 0, none⟩ (.int .i64 p')).setCell ⟨w.heap.size, 1, none⟩ (.slice go' k' gc')).setCell ⟨w.heap.size + 1, 0, none⟩ (.slice po m pc)).setCell ⟨w.heap.size + 1, 1, none⟩ (.slice eo (l).length ec)) = WX at hO d0 d1 d2 d3 ⊢
      clear r0 r1 r2 r3 z0 z1 z2 z3
      simp [bodyPost, results, Try.results58, go_sem, d0, d1, d2, d3]
      exact ⟨p', go', k', gc', po, m, pc, P, eo, (l).length, ec, _, _, rfl, by have := hO.edg.room; first | omega | (simp; omega), hO.hr.next (Below.refl _ _).drew⟩
  · have e0 : w4.cell? ⟨gb, 0, none⟩ = some (.int .i64 p) := hW.gbx.cell (j := 0) (by omega)
    have e1 : w4.cell? ⟨gb, 1, none⟩ = some (.slice go k gc) := hW.gbx.cell (j := 1) (by omega)
    obtain ⟨F, T, G, hr4, _⟩ := hW.arcs.row
    have hs4' := hW.hbx.lt
    have hne := hW.ne
    go_wp2_with fail
    refine (l3DrawOrder_any base c ao n cap p go k gc F T G (by omega) _ hW.cur hr4).mono ?_
    rintro e w5 ⟨po', m', pc', P', rfl, hm', hpb', hP', hC5, hg5⟩
    have hes := fun x e => (hW.edg.at (x := x) e).2
    replace hW := hW.step hcl hC5 hg5
    clear hC5 hg5 e0 e1 hr4
    have f0 : w5.cell? ⟨gb + 1, 0, none⟩ = some (.slice po m pc) := hW.hbx.cell (j := 0) (by omega)
    have y0 := hW.hbx.frozen 0
    replace hW := hW.setO hcl (pc' := pc') hP' (fun a e h0 => by have := hpb' a e h0; omega) (fun a x e h0 q => by have := hpb' a e h0; have := hes x q; omega)
    go_wp2
    generalize (w5.setCell ⟨gb + 1, 0, none⟩ (.slice po' m' pc')) = W6 at hW ⊢
    clear f0 y0 hne hes
    have HBX := hW.hbx
    have GBX := hW.gbx
    have r0 : W6.cell? ⟨w.heap.size, 0, none⟩ = some (.int .i64 0) := hW.rg.cell (j := 0) (by omega)
    have r1 : W6.cell? ⟨w.heap.size, 1, none⟩ = some (.slice none 0 0) := hW.rg.cell (j := 1) (by omega)
    have r2 : W6.cell? ⟨w.heap.size + 1, 0, none⟩ = some (.slice none 0 0) := hW.rh.cell (j := 0) (by omega)
    have r3 : W6.cell? ⟨w.heap.size + 1, 1, none⟩ = some (.slice none 0 0) := hW.rh.cell (j := 1) (by omega)
    have f0 : W6.cell? ⟨gb + 1, 0, none⟩ = some (.slice po' m' pc') := HBX.cell (j := 0) (by omega)
    have f1 : W6.cell? ⟨gb + 1, 1, none⟩ = some (.slice eo (l).length ec) := HBX.cell (j := 1) (by omega)
    have e0 : W6.cell? ⟨gb, 0, none⟩ = some (.int .i64 p) := GBX.cell (j := 0) (by omega)
    have e1 : W6.cell? ⟨gb, 1, none⟩ = some (.slice go k gc) := GBX.cell (j := 1) (by omega)
    have z0 := hW.rg.frozen 0
    have z1 := hW.rg.frozen 1
    have z2 := hW.rh.frozen 0
    have z3 := hW.rh.frozen 1
    have hne := hW.ne
    have hlr := hW.rh.lt
    go_wp2
    go_region_law (fail)
    all_goals
      go_wp2
      have hO := hW.out hcl (.int .i64 p) (.slice go k gc) (.slice po' m' pc') (.slice eo (l).length ec)
      have d0 : ((((W6.setCell ⟨w.heap.size, 0, none⟩ (.int .i64 p)).setCell ⟨w.heap.size, 1, none⟩ (.slice go k gc)).setCell ⟨w.heap.size + 1, 0, none⟩ (.slice po' m' pc')).setCell ⟨w.heap.size + 1, 1, none⟩ (.slice eo (l).length ec)).cell? ⟨w.heap.size, 0, none⟩ = some (.int .i64 p) := by simp [go_sem, r0, r1, r2, r3]
      have d1 : ((((W6.setCell ⟨w.heap.size, 0, none⟩ (.int .i64 p)).setCell ⟨w.heap.size, 1, none⟩ (.slice go k gc)).setCell ⟨w.heap.size + 1, 0, none⟩ (.slice po' m' pc')).setCell ⟨w.heap.size + 1, 1, none⟩ (.slice eo (l).length ec)).cell? ⟨w.heap.size, 1, none⟩ = some (.slice go k gc) := by simp [go_sem, r0, r1, r2, r3]
      have d2 : ((((W6.setCell ⟨w.heap.size, 0, none⟩ (.int .i64 p)).setCell ⟨w.heap.size, 1, none⟩ (.slice go k gc)).setCell ⟨w.heap.size + 1, 0, none⟩ (.slice po' m' pc')).setCell ⟨w.heap.size + 1, 1, none⟩ (.slice eo (l).length ec)).cell? ⟨w.heap.size + 1, 0, none⟩ = some (.slice po' m' pc') := by simp [go_sem, r0, r1, r2, r3]
      have d3 : ((((W6.setCell ⟨w.heap.size, 0, none⟩ (.int .i64 p)).setCell ⟨w.heap.size, 1, none⟩ (.slice go k gc)).setCell ⟨w.heap.size + 1, 0, none⟩ (.slice po' m' pc')).setCell ⟨w.heap.size + 1, 1, none⟩ (.slice eo (l).length ec)).cell? ⟨w.heap.size + 1, 1, none⟩ = some (.slice eo (l).length ec) := by simp [go_sem, r0, r1, r2, r3]
      generalize ((((W6.setCell ⟨w.heap.size, 0, none⟩ (.int .i64 p)).setCell ⟨w.heap.size, 1, none⟩ (.slice go k gc)).setCell ⟨w.heap.size + 1, 0, none⟩ (.slice po' m' pc')).setCell ⟨w.heap.size + 1, 1, none⟩ (.slice eo (l).length ec)) = WX at hO d0 d1 d2 d3 ⊢
      clear r0 r1 r2 r3 z0 z1 z2 z3
      simp [bodyPost, results, Try.results58, go_sem, d0, d1, d2, d3]
      exact ⟨p, go, k, gc, po', m', pc', P', eo, (l).length, ec, _, _, rfl, by have := hO.edg.room; first | omega | (simp; omega), hO.hr.next (Below.refl _ _).drew⟩
  · have f1 : w4.cell? ⟨gb + 1, 1, none⟩ = some (.slice eo l.length ec) := hW.hbx.cell (j := 1) (by omega)
    by_cases hl0 : 0 < l.length
    rotate_left
    · have hl0' : ¬ 0 < (l.length : Int) := by omega
      skip
      have HBX := hW.hbx
      have GBX := hW.gbx
      have r0 : w4.cell? ⟨w.heap.size, 0, none⟩ = some (.int .i64 0) := hW.rg.cell (j := 0) (by omega)
      have r1 : w4.cell? ⟨w.heap.size, 1, none⟩ = some (.slice none 0 0) := hW.rg.cell (j := 1) (by omega)
      have r2 : w4.cell? ⟨w.heap.size + 1, 0, none⟩ = some (.slice none 0 0) := hW.rh.cell (j := 0) (by omega)
      have r3 : w4.cell? ⟨w.heap.size + 1, 1, none⟩ = some (.slice none 0 0) := hW.rh.cell (j := 1) (by omega)
      have f0 : w4.cell? ⟨gb + 1, 0, none⟩ = some (.slice po m pc) := HBX.cell (j := 0) (by omega)
      have f1 : w4.cell? ⟨gb + 1, 1, none⟩ = some (.slice eo (l).length ec) := HBX.cell (j := 1) (by omega)
      have e0 : w4.cell? ⟨gb, 0, none⟩ = some (.int .i64 p) := GBX.cell (j := 0) (by omega)
      have e1 : w4.cell? ⟨gb, 1, none⟩ = some (.slice go k gc) := GBX.cell (j := 1) (by omega)
      have z0 := hW.rg.frozen 0
      have z1 := hW.rg.frozen 1
      have z2 := hW.rh.frozen 0
      have z3 := hW.rh.frozen 1
      have hne := hW.ne
      have hlr := hW.rh.lt
      go_wp2
      go_region_law (fail)
      all_goals
        go_wp2
        have hO := hW.out hcl (.int .i64 p) (.slice go k gc) (.slice po m pc) (.slice eo (l).length ec)
        have d0 : ((((w4.setCell ⟨w.heap.size, 0, none⟩ (.int .i64 p)).setCell ⟨w.heap.size, 1, none⟩ (.slice go k gc)).setCell ⟨w.heap.size + 1, 0, none⟩ (.slice po m pc)).setCell ⟨w.heap.size + 1, 1, none⟩ (.slice eo (l).length ec)).cell? ⟨w.heap.size, 0, none⟩ = some (.int .i64 p) := by simp [go_sem, r0, r1, r2, r3]
        have d1 : ((((w4.setCell ⟨w.heap.size, 0, none⟩ (.int .i64 p)).setCell ⟨w.heap.size, 1, none⟩ (.slice go k gc)).setCell ⟨w.heap.size + 1, 0, none⟩ (.slice po m pc)).setCell ⟨w.heap.size + 1, 1, none⟩ (.slice eo (l).length ec)).cell? ⟨w.heap.size, 1, none⟩ = some (.slice go k gc) := by simp [go_sem, r0, r1, r2, r3]
        have d2 : ((((w4.setCell ⟨w.heap.size, 0, none⟩ (.int .i64 p)).setCell ⟨w.heap.size, 1, none⟩ (.slice go k gc)).setCell ⟨w.heap.size + 1, 0, none⟩ (.slice po m pc)).setCell ⟨w.heap.size + 1, 1, none⟩ (.slice eo (l).length ec)).cell? ⟨w.heap.size + 1, 0, none⟩ = some (.slice po m pc) := by simp [go_sem, r0, r1, r2, r3]
        have d3 : ((((w4.setCell ⟨w.heap.size, 0, none⟩ (.int .i64 p)).setCell ⟨w.heap.size, 1, none⟩ (.slice go k gc)).setCell ⟨w.heap.size + 1, 0, none⟩ (.slice po m pc)).setCell ⟨w.heap.size + 1, 1, none⟩ (.slice eo (l).length ec)).cell? ⟨w.heap.size + 1, 1, none⟩ = some (.slice eo (l).length ec) := by simp [go_sem, r0, r1, r2, r3]
        generalize ((((w4.setCell ⟨w.heap.size, 0, none⟩ (.int .i64 p)).setCell ⟨w.heap.size, 1, none⟩ (.slice go k gc)).setCell ⟨w.heap.size + 1, 0, none⟩ (.slice po m pc)).setCell ⟨w.heap.size + 1, 1, none⟩ (.slice eo (l).length ec)) = WX at hO d0 d1 d2 d3 ⊢
        clear r0 r1 r2 r3 z0 z1 z2 z3
        simp [bodyPost, results, Try.results58, go_sem, d0, d1, d2, d3]
        exact ⟨p, go, k, gc, po, m, pc, P, eo, (l).length, ec, _, _, rfl, by have := hO.edg.room; first | omega | (simp; omega), hO.hr.next (Below.refl _ _).drew⟩
    have hl0' : 0 < (l.length : Int) := by omega
    obtain ⟨ge, rfl, hEo⟩ := hW.edg.some hl0
    have hroom := hEo.room
    have y1 := hW.hbx.frozen 1
    have hne := hW.ne
    by_cases hec : ec = 1
    · subst hec
      have hl1 : l.length = 1 := by omega
      rw [hl1] at f1
      obtain ⟨hV, GBX, HBX⟩ := hW.cutE hcl (.slice (some ⟨ge, 0, none⟩) 0 0)
      have HE : ERow (w4.setCell ⟨gb + 1, 1, none⟩ (.slice (some ⟨ge, 0, none⟩) 0 0)) (some ⟨ge, 0, none⟩) l.length (Lf l) (Hf l) := hV.edg.row
      have hgeb := hEo.base
      go_wp2
      generalize (w4.setCell ⟨gb + 1, 1, none⟩ (.slice (some ⟨ge, 0, none⟩) 0 0)) = W6 at hV GBX HBX HE ⊢
      clear f1 y1 hne
      have r0 : W6.cell? ⟨w.heap.size, 0, none⟩ = some (.int .i64 0) := hV.rg.cell (j := 0) (by omega)
      have r1 : W6.cell? ⟨w.heap.size, 1, none⟩ = some (.slice none 0 0) := hV.rg.cell (j := 1) (by omega)
      have r2 : W6.cell? ⟨w.heap.size + 1, 0, none⟩ = some (.slice none 0 0) := hV.rh.cell (j := 0) (by omega)
      have r3 : W6.cell? ⟨w.heap.size + 1, 1, none⟩ = some (.slice none 0 0) := hV.rh.cell (j := 1) (by omega)
      have f0 : W6.cell? ⟨gb + 1, 0, none⟩ = some (.slice po m pc) := HBX.cell (j := 0) (by omega)
      have f1 : W6.cell? ⟨gb + 1, 1, none⟩ = some (.slice (some ⟨ge, 0, none⟩) 0 0) := HBX.cell (j := 1) (by omega)
      have e0 : W6.cell? ⟨gb, 0, none⟩ = some (.int .i64 p) := GBX.cell (j := 0) (by omega)
      have e1 : W6.cell? ⟨gb, 1, none⟩ = some (.slice go k gc) := GBX.cell (j := 1) (by omega)
      have z0 := hV.rg.frozen 0
      have z1 := hV.rg.frozen 1
      have z2 := hV.rh.frozen 0
      have z3 := hV.rh.frozen 1
      have hne := hV.ne
      have hlr := hV.rh.lt
      go_wp2
      go_region_law (fail)
      all_goals
        go_wp2
        have hO := hV.out hcl (.int .i64 p) (.slice go k gc) (.slice po m pc) (.slice (some ⟨ge, 0, none⟩) 0 0)
        have d0 : ((((W6.setCell ⟨w.heap.size, 0, none⟩ (.int .i64 p)).setCell ⟨w.heap.size, 1, none⟩ (.slice go k gc)).setCell ⟨w.heap.size + 1, 0, none⟩ (.slice po m pc)).setCell ⟨w.heap.size + 1, 1, none⟩ (.slice (some ⟨ge, 0, none⟩) 0 0)).cell? ⟨w.heap.size, 0, none⟩ = some (.int .i64 p) := by simp [go_sem, r0, r1, r2, r3]
        have d1 : ((((W6.setCell ⟨w.heap.size, 0, none⟩ (.int .i64 p)).setCell ⟨w.heap.size, 1, none⟩ (.slice go k gc)).setCell ⟨w.heap.size + 1, 0, none⟩ (.slice po m pc)).setCell ⟨w.heap.size + 1, 1, none⟩ (.slice (some ⟨ge, 0, none⟩) 0 0)).cell? ⟨w.heap.size, 1, none⟩ = some (.slice go k gc) := by simp [go_sem, r0, r1, r2, r3]
        have d2 : ((((W6.setCell ⟨w.heap.size, 0, none⟩ (.int .i64 p)).setCell ⟨w.heap.size, 1, none⟩ (.slice go k gc)).setCell ⟨w.heap.size + 1, 0, none⟩ (.slice po m pc)).setCell ⟨w.heap.size + 1, 1, none⟩ (.slice (some ⟨ge, 0, none⟩) 0 0)).cell? ⟨w.heap.size + 1, 0, none⟩ = some (.slice po m pc) := by simp [go_sem, r0, r1, r2, r3]
        have d3 : ((((W6.setCell ⟨w.heap.size, 0, none⟩ (.int .i64 p)).setCell ⟨w.heap.size, 1, none⟩ (.slice go k gc)).setCell ⟨w.heap.size + 1, 0, none⟩ (.slice po m pc)).setCell ⟨w.heap.size + 1, 1, none⟩ (.slice (some ⟨ge, 0, none⟩) 0 0)).cell? ⟨w.heap.size + 1, 1, none⟩ = some (.slice (some ⟨ge, 0, none⟩) 0 0) := by simp [go_sem, r0, r1, r2, r3]
        generalize ((((W6.setCell ⟨w.heap.size, 0, none⟩ (.int .i64 p)).setCell ⟨w.heap.size, 1, none⟩ (.slice go k gc)).setCell ⟨w.heap.size + 1, 0, none⟩ (.slice po m pc)).setCell ⟨w.heap.size + 1, 1, none⟩ (.slice (some ⟨ge, 0, none⟩) 0 0)) = WX at hO d0 d1 d2 d3 ⊢
        clear r0 r1 r2 r3 z0 z1 z2 z3
        simp [bodyPost, results, Try.results58, go_sem, d0, d1, d2, d3]
        exact ⟨p, go, k, gc, po, m, pc, P, some ⟨ge, 0, none⟩, 0, 0, Lf l, Hf l, rfl, by omega, hO.cut2 (fun k hk => by omega) (fun a e h0 => by omega) (fun j hj => by omega)⟩
    have hx1 : (1 : Int) ≤ (ec : Int) := by omega
    obtain ⟨hV, GBX, HBX⟩ := hW.cutE hcl (.slice (some ⟨ge, 2, none⟩) (l.length - 1) (ec - 1))
    have HE : ERow (w4.setCell ⟨gb + 1, 1, none⟩ (.slice (some ⟨ge, 2, none⟩) (l.length - 1) (ec - 1))) (some ⟨ge, 0, none⟩) l.length (Lf l) (Hf l) := hV.edg.row
    have hgeb := hEo.base
    go_wp2
    generalize (w4.setCell ⟨gb + 1, 1, none⟩ (.slice (some ⟨ge, 2, none⟩) (l.length - 1) (ec - 1))) = W6 at hV GBX HBX HE ⊢
    clear f1 y1 hne
    have r0 : W6.cell? ⟨w.heap.size, 0, none⟩ = some (.int .i64 0) := hV.rg.cell (j := 0) (by omega)
    have r1 : W6.cell? ⟨w.heap.size, 1, none⟩ = some (.slice none 0 0) := hV.rg.cell (j := 1) (by omega)
    have r2 : W6.cell? ⟨w.heap.size + 1, 0, none⟩ = some (.slice none 0 0) := hV.rh.cell (j := 0) (by omega)
    have r3 : W6.cell? ⟨w.heap.size + 1, 1, none⟩ = some (.slice none 0 0) := hV.rh.cell (j := 1) (by omega)
    have f0 : W6.cell? ⟨gb + 1, 0, none⟩ = some (.slice po m pc) := HBX.cell (j := 0) (by omega)
    have f1 : W6.cell? ⟨gb + 1, 1, none⟩ = some (.slice (some ⟨ge, 2, none⟩) (l.length - 1) (ec - 1)) := HBX.cell (j := 1) (by omega)
    have e0 : W6.cell? ⟨gb, 0, none⟩ = some (.int .i64 p) := GBX.cell (j := 0) (by omega)
    have e1 : W6.cell? ⟨gb, 1, none⟩ = some (.slice go k gc) := GBX.cell (j := 1) (by omega)
    have z0 := hV.rg.frozen 0
    have z1 := hV.rg.frozen 1
    have z2 := hV.rh.frozen 0
    have z3 := hV.rh.frozen 1
    have hne := hV.ne
    have hlr := hV.rh.lt
    go_wp2
    go_region_law (fail)
    all_goals
      go_wp2
      have hO := hV.out hcl (.int .i64 p) (.slice go k gc) (.slice po m pc) (.slice (some ⟨ge, 2, none⟩) (l.length - 1) (ec - 1))
      have d0 : ((((W6.setCell ⟨w.heap.size, 0, none⟩ (.int .i64 p)).setCell ⟨w.heap.size, 1, none⟩ (.slice go k gc)).setCell ⟨w.heap.size + 1, 0, none⟩ (.slice po m pc)).setCell ⟨w.heap.size + 1, 1, none⟩ (.slice (some ⟨ge, 2, none⟩) (l.length - 1) (ec - 1))).cell? ⟨w.heap.size, 0, none⟩ = some (.int .i64 p) := by simp [go_sem, r0, r1, r2, r3]
      have d1 : ((((W6.setCell ⟨w.heap.size, 0, none⟩ (.int .i64 p)).setCell ⟨w.heap.size, 1, none⟩ (.slice go k gc)).setCell ⟨w.heap.size + 1, 0, none⟩ (.slice po m pc)).setCell ⟨w.heap.size + 1, 1, none⟩ (.slice (some ⟨ge, 2, none⟩) (l.length - 1) (ec - 1))).cell? ⟨w.heap.size, 1, none⟩ = some (.slice go k gc) := by simp [go_sem, r0, r1, r2, r3]
      have d2 : ((((W6.setCell ⟨w.heap.size, 0, none⟩ (.int .i64 p)).setCell ⟨w.heap.size, 1, none⟩ (.slice go k gc)).setCell ⟨w.heap.size + 1, 0, none⟩ (.slice po m pc)).setCell ⟨w.heap.size + 1, 1, none⟩ (.slice (some ⟨ge, 2, none⟩) (l.length - 1) (ec - 1))).cell? ⟨w.heap.size + 1, 0, none⟩ = some (.slice po m pc) := by simp [go_sem, r0, r1, r2, r3]
      have d3 : ((((W6.setCell ⟨w.heap.size, 0, none⟩ (.int .i64 p)).setCell ⟨w.heap.size, 1, none⟩ (.slice go k gc)).setCell ⟨w.heap.size + 1, 0, none⟩ (.slice po m pc)).setCell ⟨w.heap.size + 1, 1, none⟩ (.slice (some ⟨ge, 2, none⟩) (l.length - 1) (ec - 1))).cell? ⟨w.heap.size + 1, 1, none⟩ = some (.slice (some ⟨ge, 2, none⟩) (l.length - 1) (ec - 1)) := by simp [go_sem, r0, r1, r2, r3]
      generalize ((((W6.setCell ⟨w.heap.size, 0, none⟩ (.int .i64 p)).setCell ⟨w.heap.size, 1, none⟩ (.slice go k gc)).setCell ⟨w.heap.size + 1, 0, none⟩ (.slice po m pc)).setCell ⟨w.heap.size + 1, 1, none⟩ (.slice (some ⟨ge, 2, none⟩) (l.length - 1) (ec - 1))) = WX at hO d0 d1 d2 d3 ⊢
      clear r0 r1 r2 r3 z0 z1 z2 z3
      simp [bodyPost, results, Try.results58, go_sem, d0, d1, d2, d3]
      exact ⟨p, go, k, gc, po, m, pc, P, some ⟨ge, 2, none⟩, l.length - 1, ec - 1, _, _, rfl, by omega, hO.cut2 hO.edg.row.tail (fun a e h0 => by cases e; have := hO.hr.edgb _ rfl hl0; exact this) (fun j hj => hO.hr.ewf (j + 1) (by omega))⟩
  · have f1 : w4.cell? ⟨gb + 1, 1, none⟩ = some (.slice eo l.length ec) := hW.hbx.cell (j := 1) (by omega)
    have hWd := hW.next (Below.refl w4.heap.size w4).drew
    have hne := hW.ne
    have hlh := hW.hbx.lt
    clear hW
    go_wp2
    go_region_law (first
      | (refine step_append_edgeE ?_ (.tmp 38) (.tmp 44) ?_ (w.heap.size + 2) ec eo l ?_ (hW6.edg.next ((Below.refl _ _).alloc (Nat.le_refl _) _)) w6.heap.size 1 x y ?_ (by simp [go_sem]) (by simp [go_sem]) (by omega) (by simp; omega) ?_; rfl; rfl; rfl; rfl; intro g7 ec7 w7 hown7 hgrow7 hat7; have hbx7 := (hW6.next ((Below.refl _ _).alloc (Nat.le_refl _) _)).appBox hgrow7; have q7 : w7.cell? ⟨gb + 1, 1, none⟩ = some (.slice eo l.length ec) := hbx7.cell (j := 1) (by omega); have z7 := hbx7.frozen 1)
      | (go_simp; go_at_call 75; refine (l1FromN_any base c ao n cap 0 9 (by omega) (by omega) (by omega) _ hW5.cur).mono ?_; rintro e w6 ⟨y, rfl, wy, hC6, hg6⟩; have HWY : Hid ((Lit.int .i64 y).wf = true) := wy; clear wy; have hW6 := hW5.step hcl hC6 hg6; have f6 : w6.cell? ⟨gb + 1, 1, none⟩ = some (.slice eo l.length ec) := hW6.hbx.cell (j := 1) (by omega); have f6a : (w6.alloc (.cells #[.int .i64 x, .int .i64 y] 38)).cell? ⟨gb + 1, 1, none⟩ = some (.slice eo l.length ec) := (hW6.next ((Below.refl _ _).alloc (Nat.le_refl _) _)).hbx.cell (j := 1) (by omega); have hs6 := hg6.size; clear hC6 hg6)
      | (go_simp; go_at_call 75; refine (l1FromN_any base c ao n cap 0 8 (by omega) (by omega) (by omega) _ hWd.cur).mono ?_; rintro e w5 ⟨x, rfl, wx, hC5, hg5⟩; have HWX : Hid ((Lit.int .i64 x).wf = true) := wx; clear wx; have hW5 := hWd.step hcl hC5 hg5; have f5 : w5.cell? ⟨gb + 1, 1, none⟩ = some (.slice eo l.length ec) := hW5.hbx.cell (j := 1) (by omega); have hs5 := hg5.size; (try simp only [World.size_drew] at hs5); clear hC5 hg5))
    all_goals
      obtain ⟨l', hl'⟩ : ∃ l', l' = l ++ [(x, y)] := ⟨_, rfl⟩
      have hlen : l'.length = l.length + 1 := by rw [hl']; simp
      have hwl : LWf l' := by
        rw [hl']
        intro z hz
        rcases List.mem_append.1 hz with h | h
        · exact hW6.edg.2 z h
        · simp at h
          subst h
          exact ⟨HWX.out, HWY.out⟩
      rw [← hl'] at hown7
      rw [← hlen]
      have hl7 : l'.length ≤ 217 := by omega
      clear hlen hl'
      have hW := (hW6.next ((Below.refl _ _).alloc (Nat.le_refl _) _)).appE hcl hgrow7 hown7 hwl hat7
      clear hW6 hW5 hWd hgrow7 hown7 hat7 hbx7 q7 z7 f5 f6 f6a f1
      go_wp2
      generalize (w7.setCell ⟨gb + 1, 1, none⟩ (.slice (some ⟨g7, 0, none⟩) l'.length ec7)) = W8 at hW ⊢
      have HBX := hW.hbx
      have GBX := hW.gbx
      have r0 : W8.cell? ⟨w.heap.size, 0, none⟩ = some (.int .i64 0) := hW.rg.cell (j := 0) (by omega)
      have r1 : W8.cell? ⟨w.heap.size, 1, none⟩ = some (.slice none 0 0) := hW.rg.cell (j := 1) (by omega)
      have r2 : W8.cell? ⟨w.heap.size + 1, 0, none⟩ = some (.slice none 0 0) := hW.rh.cell (j := 0) (by omega)
      have r3 : W8.cell? ⟨w.heap.size + 1, 1, none⟩ = some (.slice none 0 0) := hW.rh.cell (j := 1) (by omega)
      have f0 : W8.cell? ⟨gb + 1, 0, none⟩ = some (.slice po m pc) := HBX.cell (j := 0) (by omega)
      have f1 : W8.cell? ⟨gb + 1, 1, none⟩ = some (.slice (some ⟨g7, 0, none⟩) (l').length ec7) := HBX.cell (j := 1) (by omega)
      have e0 : W8.cell? ⟨gb, 0, none⟩ = some (.int .i64 p) := GBX.cell (j := 0) (by omega)
      have e1 : W8.cell? ⟨gb, 1, none⟩ = some (.slice go k gc) := GBX.cell (j := 1) (by omega)
      have z0 := hW.rg.frozen 0
      have z1 := hW.rg.frozen 1
      have z2 := hW.rh.frozen 0
      have z3 := hW.rh.frozen 1
      have hne := hW.ne
      have hlr := hW.rh.lt
      go_wp2
      go_region_law (fail)
      all_goals
        go_wp2
        have hO := hW.out hcl (.int .i64 p) (.slice go k gc) (.slice po m pc) (.slice (some ⟨g7, 0, none⟩) (l').length ec7)
        have d0 : ((((W8.setCell ⟨w.heap.size, 0, none⟩ (.int .i64 p)).setCell ⟨w.heap.size, 1, none⟩ (.slice go k gc)).setCell ⟨w.heap.size + 1, 0, none⟩ (.slice po m pc)).setCell ⟨w.heap.size + 1, 1, none⟩ (.slice (some ⟨g7, 0, none⟩) (l').length ec7)).cell? ⟨w.heap.size, 0, none⟩ = some (.int .i64 p) := by simp [go_sem, r0, r1, r2, r3]
        have d1 : ((((W8.setCell ⟨w.heap.size, 0, none⟩ (.int .i64 p)).setCell ⟨w.heap.size, 1, none⟩ (.slice go k gc)).setCell ⟨w.heap.size + 1, 0, none⟩ (.slice po m pc)).setCell ⟨w.heap.size + 1, 1, none⟩ (.slice (some ⟨g7, 0, none⟩) (l').length ec7)).cell? ⟨w.heap.size, 1, none⟩ = some (.slice go k gc) := by simp [go_sem, r0, r1, r2, r3]
        have d2 : ((((W8.setCell ⟨w.heap.size, 0, none⟩ (.int .i64 p)).setCell ⟨w.heap.size, 1, none⟩ (.slice go k gc)).setCell ⟨w.heap.size + 1, 0, none⟩ (.slice po m pc)).setCell ⟨w.heap.size + 1, 1, none⟩ (.slice (some ⟨g7, 0, none⟩) (l').length ec7)).cell? ⟨w.heap.size + 1, 0, none⟩ = some (.slice po m pc) := by simp [go_sem, r0, r1, r2, r3]
        have d3 : ((((W8.setCell ⟨w.heap.size, 0, none⟩ (.int .i64 p)).setCell ⟨w.heap.size, 1, none⟩ (.slice go k gc)).setCell ⟨w.heap.size + 1, 0, none⟩ (.slice po m pc)).setCell ⟨w.heap.size + 1, 1, none⟩ (.slice (some ⟨g7, 0, none⟩) (l').length ec7)).cell? ⟨w.heap.size + 1, 1, none⟩ = some (.slice (some ⟨g7, 0, none⟩) (l').length ec7) := by simp [go_sem, r0, r1, r2, r3]
        generalize ((((W8.setCell ⟨w.heap.size, 0, none⟩ (.int .i64 p)).setCell ⟨w.heap.size, 1, none⟩ (.slice go k gc)).setCell ⟨w.heap.size + 1, 0, none⟩ (.slice po m pc)).setCell ⟨w.heap.size + 1, 1, none⟩ (.slice (some ⟨g7, 0, none⟩) (l').length ec7)) = WX at hO d0 d1 d2 d3 ⊢
        clear r0 r1 r2 r3 z0 z1 z2 z3
        simp [bodyPost, results, Try.results58, go_sem, d0, d1, d2, d3]
        exact ⟨p, go, k, gc, po, m, pc, P, (some ⟨g7, 0, none⟩), (l').length, ec7, _, _, rfl, by have := hO.edg.room; first | omega | (simp; omega), hO.hr.next (Below.refl _ _).drew⟩

end Go.Proofs.Yteibbknpcgcjjab
