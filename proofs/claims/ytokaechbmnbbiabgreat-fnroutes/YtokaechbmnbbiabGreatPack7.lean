/-
  Helpers, merged: DrawH5, DrawH6, BAn, EdOkA, Cmp, EdOkImpl, ChdP.
-/
import Derived.Test.YtokaechbmnbbiabGreatPack6
import Derived.Test.YtokaechbmnbbiabGreatRows
import Derived.Test.YtokaechbmnbbiabGreatPack1
import Derived.Test.YtokaechbmnbbiabGreatPack2
/-
  The document's draw of a map and its hierarchy.
-/
set_option linter.unusedVariables false
set_option linter.unusedSimpArgs false
namespace Go.Proofs.YtokaechbmnbbiabGreat
open Go.RowKit Go.Maps Go.Deep Go.Joins
attribute [local go_sem ↓] Go.wp_at_zero Go.wp_at_succ

/-- A map and a hierarchy that are drawn, in new memory. -/
structure HD (w : World) (base c : Nat) (ao : Option Addr) (n cap : Nat) (go : Option Addr) (k gc : Nat) (po : Option Addr) (m : Nat) (P : Nat → Int) (eo : Option Addr) (ec : Nat) (l : List (Int × Int)) (W : World) : Prop where
  cur : CurAt W base c ao n cap
  gr : w.grownBy W (some c)
  arcs : AOwnE W w.heap.size go k gc
  ord : IRow W po m P
  ordb : ∀ a, po = some a → 0 < m → w.heap.size ≤ a.block
  edg : EOwnE W w.heap.size eo ec l
  sep : ∀ a x, po = some a → 0 < m → (Value.slice eo l.length ec).ownBlock = some x → a.block ≠ x
theorem hi2_new (w : World) (a b : Value) : VHas (w.alloc (.cells #[a, b] 30)) w.heap.size 30 2 (me2 a b) :=
  ⟨_, Go.Deep.blk_alloc_new _ _, by simp, fun j hj => by
    have : j = 0 ∨ j = 1 := by omega
    rcases this with rfl | rfl <;> rfl⟩
theorem AOwnE.cellsB {w : World} {base n cap : Nat} {ao : Option Addr} (h : AOwnE w base ao n cap) : ∀ a, ao = some a → 0 < n → base ≤ a.block := fun a e h0 => by
  obtain ⟨F, T, G, _, h2⟩ := h.row
  obtain ⟨g, e2, hg⟩ := h2 h0
  rw [e2] at e
  cases e
  exact hg
section
variable {w W W' : World} {base c : Nat} {ao : Option Addr} {n cap gb hb : Nat} {p : Int} {go : Option Addr} {k gc : Nat} {po : Option Addr} {m pc : Nat} {P : Nat → Int} {eo : Option Addr} {ec : Nat} {l : List (Int × Int)}
theorem AOwnE.of_block {w w' : World} {base k gc : Nat} {go : Option Addr} (h : AOwnE w base go k gc) (e : ∀ x, (Value.slice go k gc).ownBlock = some x → w'.heap[x]? = w.heap[x]?) : AOwnE w' base go k gc := by
  obtain ⟨f, hw9, h1, h2⟩ := h
  refine ⟨f, hw9, h1, ?_⟩
  rcases h2 with hn | ⟨g', cap', cur, hv, hb', hgg, rest⟩
  · exact .inl hn
  · have e2 := e g' (by rw [hv]; rfl)
    exact .inr ⟨g', cap', cur, hv, hb', e2.trans hgg, rest⟩
theorem AOwnE.grownN {w w' : World} {base k gc x : Nat} {go : Option Addr} (h : AOwnE w base go k gc) (hg : w.grownBy w' (some x)) (hne : ∀ y, (Value.slice go k gc).ownBlock = some y → y ≠ x) : AOwnE w' base go k gc := h.of_block (fun y e => hg.block y (h.at e).2 (fun q => hne y e (by simpa using q)))
theorem HW.setH (h : HW w base c ao n cap gb hb p go k gc po m pc P eo ec l W) (hc : c < w.heap.size) {po' : Option Addr} {m' pc' : Nat} {P' : Nat → Int} {eo' : Option Addr} {ec' : Nat} {l' : List (Int × Int)} (hP : IRow W po' m' P') (hpb : ∀ a, po' = some a → 0 < m' → w.heap.size + 2 ≤ a.block ∧ a.block ≠ gb ∧ a.block ≠ hb) (hE : EOwnE W (w.heap.size + 2) eo' ec' l') (hsep : ∀ a x, po' = some a → 0 < m' → (Value.slice eo' l'.length ec').ownBlock = some x → a.block ≠ x) :
    HW w base c ao n cap gb hb p go k gc po' m' pc' P' eo' ec' l' ((W.setCell ⟨hb, 0, none⟩ (.slice po' m' pc')).setCell ⟨hb, 1, none⟩ (.slice eo' l'.length ec')) := by
  have h1 := gr_setCell W hb 0 (.slice po' m' pc')
  have h2 := gr_setCell (W.setCell ⟨hb, 0, none⟩ (.slice po' m' pc')) hb 1 (.slice eo' l'.length ec')
  have hbx := ((h.hbx.set 0 (.slice po' m' pc')).set 1 (.slice eo' l'.length ec')).congr (g := me2 (.slice po' m' pc') (.slice eo' l'.length ec')) (fun i hi => by
    have : i = 0 ∨ i = 1 := by omega
    rcases this with rfl | rfl <;> rfl)
  have hne := h.ne
  have hge := h.cur.ge
  have na : ∀ y, (Value.slice go k gc).ownBlock = some y → y ≠ hb := fun y e => vhas_arc h.hbx h.arcs e
  have nE : ∀ y, (Value.slice eo' l'.length ec').ownBlock = some y → some hb ≠ some y := fun y e q => vhas_edge (by decide) h.hbx hE e (by simpa using q.symm)
  generalize ((W.setCell ⟨hb, 0, none⟩ (.slice po' m' pc')).setCell ⟨hb, 1, none⟩ (.slice eo' l'.length ec')) = W2 at h2 hbx ⊢
  generalize (W.setCell ⟨hb, 0, none⟩ (.slice po' m' pc')) = W1 at h1 h2
  exact ⟨(h.cur.grown h1 (by omega) (by omega)).grown h2 (by omega) (by omega), gr_far (gr_far h.gr h1 (fun g e => by cases e; exact Nat.le_refl _) (by omega)) h2 (fun g e => by cases e; exact Nat.le_refl _) (by omega), (h.rg.grown h1 (by simp; omega)).grown h2 (by simp; omega), (h.rh.grown h1 (by simp; omega)).grown h2 (by simp; omega), (h.gbx.grown h1 (by simp; omega)).grown h2 (by simp; omega), hbx, (h.arcs.grownN h1 na).grownN h2 na, (hP.otherE h1 (fun a e h0 => (hpb a e h0).2.2)).otherE h2 (fun a e h0 => (hpb a e h0).2.2), hpb, (hE.grown h1 nE).grown h2 nE, h.ne, hsep⟩
theorem HD.next (h : HD w base c ao n cap go k gc po m P eo ec l W) (hb' : Below W.heap.size W W') : HD w base c ao n cap go k gc po m P eo ec l W' :=
  ⟨h.cur.next hb', h.gr.trans ⟨hb'.os, hb'.tape, hb'.output, hb'.size, fun k hk _ => hb'.block k hk⟩, h.arcs.next hb', h.ord.below hb' (Nat.le_refl _), h.ordb, h.edg.next hb', h.sep⟩
theorem HW.out (h : HW w base c ao n cap gb hb p go k gc po m pc P eo ec l W) (hc : c < w.heap.size) (v0 v1 v2 v3 : Value) :
    HD w base c ao n cap go k gc po m P eo ec l ((((W.setCell ⟨w.heap.size, 0, none⟩ v0).setCell ⟨w.heap.size, 1, none⟩ v1).setCell ⟨w.heap.size + 1, 0, none⟩ v2).setCell ⟨w.heap.size + 1, 1, none⟩ v3) := by
  have h1 := gr_setCell W w.heap.size 0 v0
  have h2 := gr_setCell (W.setCell ⟨w.heap.size, 0, none⟩ v0) w.heap.size 1 v1
  have h3 := gr_setCell ((W.setCell ⟨w.heap.size, 0, none⟩ v0).setCell ⟨w.heap.size, 1, none⟩ v1) (w.heap.size + 1) 0 v2
  have h4 := gr_setCell (((W.setCell ⟨w.heap.size, 0, none⟩ v0).setCell ⟨w.heap.size, 1, none⟩ v1).setCell ⟨w.heap.size + 1, 0, none⟩ v2) (w.heap.size + 1) 1 v3
  generalize (((W.setCell ⟨w.heap.size, 0, none⟩ v0).setCell ⟨w.heap.size, 1, none⟩ v1).setCell ⟨w.heap.size + 1, 0, none⟩ v2) = W3 at h3 h4 ⊢
  generalize ((W.setCell ⟨w.heap.size, 0, none⟩ v0).setCell ⟨w.heap.size, 1, none⟩ v1) = W2 at h2 h3
  generalize (W.setCell ⟨w.heap.size, 0, none⟩ v0) = W1 at h1 h2
  have hge := h.cur.ge
  refine ⟨(((h.cur.grown h1 (by omega) (by omega)).grown h2 (by omega) (by omega)).grown h3 (by omega) (by omega)).grown h4 (by omega) (by omega), ?_, ((((h.arcs.grown h1 (by omega)).grown h2 (by omega)).grown h3 (by omega)).grown h4 (by omega)).from (by omega), ?_, fun a e h0 => by have := h.ordb a e h0; omega, ?_, h.sep⟩
  · exact gr_far (gr_far (gr_far (gr_far h.gr h1 (fun g e => by cases e; exact Nat.le_refl _) (Nat.le_refl _)) h2 (fun g e => by cases e; exact Nat.le_refl _) (Nat.le_refl _)) h3 (fun g e => by cases e; exact Nat.le_refl _) (by omega)) h4 (fun g e => by cases e; exact Nat.le_refl _) (by omega)
  · exact (((h.ord.otherE h1 (fun a e h0 => by have := h.ordb a e h0; omega)).otherE h2 (fun a e h0 => by have := h.ordb a e h0; omega)).otherE h3 (fun a e h0 => by have := h.ordb a e h0; omega)).otherE h4 (fun a e h0 => by have := h.ordb a e h0; omega)
  · have hx : ∀ x, (Value.slice eo l.length ec).ownBlock = some x → w.heap.size + 2 ≤ x := fun x e => (h.edg.at e).1
    exact ((((h.edg.grown h1 (fun x e q => by have := hx x e; cases q; omega)).grown h2 (fun x e q => by have := hx x e; cases q; omega)).grown h3 (fun x e q => by have := hx x e; cases q; omega)).grown h4 (fun x e q => by have := hx x e; cases q; omega)).from (by omega)
end

set_option maxRecDepth 100000 in
set_option maxHeartbeats 4000000 in
theorem l5Draw_any (base c : Nat) (ao : Option Addr) (n cap : Nat) (w : World) (hC : CurAt w base c ao n cap) :
    Calls Tryz.prog 100 #[.pointer (some ⟨c, 0, none⟩)] w fun e w' => ∃ (p : Int) (go : Option Addr) (k gc : Nat) (po : Option Addr) (m pc : Nat) (P : Nat → Int) (eo : Option Addr) (ec : Nat) (l : List (Int × Int)), e = .returned (.tuple #[.agg #[.int .i64 p, .slice go k gc], .agg #[.slice po m pc, .slice eo l.length ec]]) ∧ (k ≤ 200 ∧ m ≤ 24 ∧ l.length ≤ 216) ∧ HD w base c ao n cap go k gc po m P eo ec l w' := by
  have hcl := hC.lt
  have hge := hC.ge
  have hal1 := (Below.refl w.heap.size w).alloc (Nat.le_refl _) (.cells #[.int .i64 0, .slice none 0 0] 26)
  have hal2 := (Below.refl _ (w.alloc (.cells #[.int .i64 0, .slice none 0 0] 26))).alloc (Nat.le_refl _) (.cells #[.slice none 0 0, .slice none 0 0] 30)
  have hC0 := (hC.next hal1).next hal2
  have rg := (gr_new w 0 (.slice none 0 0)).next hal2
  have rh := hi2_new (w.alloc (.cells #[.int .i64 0, .slice none 0 0] 26)) (.slice none 0 0) (.slice none 0 0)
  have gr0 : w.grownBy ((w.alloc (.cells #[.int .i64 0, .slice none 0 0] 26)).alloc (.cells #[.slice none 0 0, .slice none 0 0] 30)) (some c) := (⟨hal1.os, hal1.tape, hal1.output, hal1.size, fun k hk _ => hal1.block k hk⟩ : w.grownBy _ (some c)).trans ⟨hal2.os, hal2.tape, hal2.output, hal2.size, fun k hk _ => hal2.block k hk⟩
  have hz0 : ((w.alloc (.cells #[.int .i64 0, .slice none 0 0] 26)).alloc (.cells #[.slice none 0 0, .slice none 0 0] 30)).heap.size = w.heap.size + 2 := by simp
  go_enter Tryz.func100, Tryz.ntmps100
  go_wp2_with fail
  generalize ((w.alloc (.cells #[.int .i64 0, .slice none 0 0] 26)).alloc (.cells #[.slice none 0 0, .slice none 0 0] 30)) = W0 at hC0 rg rh gr0 hz0 ⊢
  simp only [World.size_alloc] at rh
  clear hal1 hal2
  refine (l1Draw_any base c ao n cap _ hC0).mono ?_
  rintro e w1 ⟨p, go, k, gc, rfl, ⟨hp1, hp9⟩, hk, hO1, hC1, hg1⟩
  obtain ⟨F, T, G, hr1, _⟩ := hO1.row
  replace rg := rg.grown hg1 (by simp; omega)
  replace rh := rh.grown hg1 (by simp; omega)
  replace gr0 := gr0.trans hg1
  have hs1 := hg1.size
  rw [hz0] at hO1
  clear hg1 hC0
  have ha := (fun X o => (Below.refl _ X).alloc (Nat.le_refl _) o : ∀ (X : World) (o : Obj), Below X.heap.size X (X.alloc o)) w1 (.cells #[.int .i64 (p : Int), .slice go k gc] 26)
  have gbx := gr_new w1 (p : Int) (.slice go k gc)
  replace rg := rg.next ha
  replace rh := rh.next ha
  replace hr1 := hr1.below ha (Nat.le_refl _)
  replace hO1 := hO1.next ha
  replace hC1 := hC1.next ha
  replace gr0 := gr0.trans (⟨ha.os, ha.tape, ha.output, ha.size, fun k hk _ => ha.block k hk⟩ : w1.grownBy _ (some c))
  have hs2 : (w1.alloc (.cells #[.int .i64 (p : Int), .slice go k gc] 26)).heap.size = w1.heap.size + 1 := by simp
  have q0 : (w1.alloc (.cells #[.int .i64 (p : Int), .slice go k gc] 26)).cell? ⟨w1.heap.size, 0, none⟩ = some (.int .i64 (p : Int)) := by simp [go_sem]
  have q1 : (w1.alloc (.cells #[.int .i64 (p : Int), .slice go k gc] 26)).cell? ⟨w1.heap.size, 1, none⟩ = some (.slice go k gc) := by simp [go_sem]
  clear ha
  go_wp2_with fail
  generalize (w1.alloc (.cells #[.int .i64 (p : Int), .slice go k gc] 26)) = W2 at rg rh hr1 hO1 hC1 gr0 hs2 q0 q1 gbx ⊢
  generalize w1.heap.size = gb at gbx q0 q1 hs2 hs1 ⊢
  refine (specNewHier_ex (p : Int) go k gc F T G (by omega) (by omega) _ hr1).mono ?_
  rintro e w3 ⟨po, m, pc, P, eo, ec, l, rfl, hm, hl, hpb, hP, hE, hsp, hb3⟩
  have ha := (fun X o => (Below.refl _ X).alloc (Nat.le_refl _) o : ∀ (X : World) (o : Obj), Below X.heap.size X (X.alloc o)) w3 (.cells #[.slice po m pc, .slice eo l.length ec] 30)
  have hs3 := hb3.size
  have hW : HW w base c ao n cap gb w3.heap.size p go k gc po m pc P eo ec l (w3.alloc (.cells #[.slice po m pc, .slice eo l.length ec] 30)) :=
    ⟨(hC1.next hb3).next ha, (gr0.trans ⟨hb3.os, hb3.tape, hb3.output, hb3.size, fun k hk _ => hb3.block k hk⟩).trans ⟨ha.os, ha.tape, ha.output, ha.size, fun k hk _ => ha.block k hk⟩, (rg.next hb3).next ha, (rh.next hb3).next ha, (gbx.next hb3).next ha, hi2_new _ _ _, (hO1.next hb3).next ha, hP.below ha (Nat.le_refl _), fun a e h0 => by have := hpb a e h0; omega, (hE.from (by omega)).next ha, by omega, hsp⟩
  replace hr1 := (hr1.below hb3 (Nat.le_refl _)).below ha (Nat.le_refl _)
  have hgo := hW.arcs.cellsB
  have hs4 : (w3.alloc (.cells #[.slice po m pc, .slice eo l.length ec] 30)).heap.size = w3.heap.size + 1 := by simp
  clear ha rg rh gbx hO1 hC1 gr0 hP hE hpb hb3 q0 q1
  go_wp2_with fail
  generalize (w3.alloc (.cells #[.slice po m pc, .slice eo l.length ec] 30)) = W4 at hW hr1 hs4 ⊢
  generalize w3.heap.size = hb at hW hs4 hs3 ⊢
  refine (l1Once_any base c ao n cap 2 (by omega) (by omega) _ hW.cur).mono ?_
  rintro e w5 ⟨bx, rfl, hC5, hg5⟩
  have hr5 : Row w5 go k F T G := hr1.otherB hg5 (fun a e h0 q => by have := hgo a e h0; simp at q; omega)
  replace hW := hW.step hcl hC5 hg5
  have hs5 := hg5.size
  clear hC5 hg5 hr1
  have e0 : w5.cell? ⟨gb, 0, none⟩ = some (.int .i64 (p : Int)) := hW.gbx.cell (j := 0) (by omega)
  have e1 : w5.cell? ⟨gb, 1, none⟩ = some (.slice go k gc) := hW.gbx.cell (j := 1) (by omega)
  cases bx
  · have r0 : w5.cell? ⟨w.heap.size, 0, none⟩ = some (.int .i64 0) := hW.rg.cell (j := 0) (by omega)
    have r1 : w5.cell? ⟨w.heap.size, 1, none⟩ = some (.slice none 0 0) := hW.rg.cell (j := 1) (by omega)
    have r2 : w5.cell? ⟨w.heap.size + 1, 0, none⟩ = some (.slice none 0 0) := hW.rh.cell (j := 0) (by omega)
    have r3 : w5.cell? ⟨w.heap.size + 1, 1, none⟩ = some (.slice none 0 0) := hW.rh.cell (j := 1) (by omega)
    have f0 : w5.cell? ⟨hb, 0, none⟩ = some (.slice po m pc) := hW.hbx.cell (j := 0) (by omega)
    have f1 : w5.cell? ⟨hb, 1, none⟩ = some (.slice eo l.length ec) := hW.hbx.cell (j := 1) (by omega)
    have z0 := hW.rg.frozen 0
    have z1 := hW.rg.frozen 1
    have z2 := hW.rh.frozen 0
    have z3 := hW.rh.frozen 1
    have hne := hW.ne
    have hlr := hW.rh.lt
    go_wp2
    go_region_law (fail)
    all_goals
      go_wp2
      have hO := hW.out hcl (.int .i64 (p : Int)) (.slice go k gc) (.slice po m pc) (.slice eo l.length ec)
      have d0 : ((((w5.setCell ⟨w.heap.size, 0, none⟩ (.int .i64 (p : Int))).setCell ⟨w.heap.size, 1, none⟩ (.slice go k gc)).setCell ⟨w.heap.size + 1, 0, none⟩ (.slice po m pc)).setCell ⟨w.heap.size + 1, 1, none⟩ (.slice eo l.length ec)).cell? ⟨w.heap.size, 0, none⟩ = some (.int .i64 (p : Int)) := by simp [go_sem, r0, r1, r2, r3]
      have d1 : ((((w5.setCell ⟨w.heap.size, 0, none⟩ (.int .i64 (p : Int))).setCell ⟨w.heap.size, 1, none⟩ (.slice go k gc)).setCell ⟨w.heap.size + 1, 0, none⟩ (.slice po m pc)).setCell ⟨w.heap.size + 1, 1, none⟩ (.slice eo l.length ec)).cell? ⟨w.heap.size, 1, none⟩ = some (.slice go k gc) := by simp [go_sem, r0, r1, r2, r3]
      have d2 : ((((w5.setCell ⟨w.heap.size, 0, none⟩ (.int .i64 (p : Int))).setCell ⟨w.heap.size, 1, none⟩ (.slice go k gc)).setCell ⟨w.heap.size + 1, 0, none⟩ (.slice po m pc)).setCell ⟨w.heap.size + 1, 1, none⟩ (.slice eo l.length ec)).cell? ⟨w.heap.size + 1, 0, none⟩ = some (.slice po m pc) := by simp [go_sem, r0, r1, r2, r3]
      have d3 : ((((w5.setCell ⟨w.heap.size, 0, none⟩ (.int .i64 (p : Int))).setCell ⟨w.heap.size, 1, none⟩ (.slice go k gc)).setCell ⟨w.heap.size + 1, 0, none⟩ (.slice po m pc)).setCell ⟨w.heap.size + 1, 1, none⟩ (.slice eo l.length ec)).cell? ⟨w.heap.size + 1, 1, none⟩ = some (.slice eo l.length ec) := by simp [go_sem, r0, r1, r2, r3]
      generalize ((((w5.setCell ⟨w.heap.size, 0, none⟩ (.int .i64 (p : Int))).setCell ⟨w.heap.size, 1, none⟩ (.slice go k gc)).setCell ⟨w.heap.size + 1, 0, none⟩ (.slice po m pc)).setCell ⟨w.heap.size + 1, 1, none⟩ (.slice eo l.length ec)) = WX at hO d0 d1 d2 d3 ⊢
      clear r0 r1 r2 r3 z0 z1 z2 z3
      simp [bodyPost, results, Tryz.results100, go_sem, d0, d1, d2, d3]
      exact ⟨p, go, k, gc, po, m, pc, P, eo, ec, l, by simp, by omega, hO.next (Below.refl _ _).drew⟩
  go_wp2_with fail
  refine (l3DrawOrder_any base c ao n cap (p : Int) go k gc F T G (by omega) _ hW.cur hr5).mono ?_
  rintro e w6 ⟨po', m', pc', P', rfl, hm', hpb', hP', hC6, hg6⟩
  have hr6 : Row w6 go k F T G := hr5.otherB hg6 (fun a e h0 q => by have := hgo a e h0; simp at q; omega)
  replace hW := hW.step hcl hC6 hg6
  have hs6 := hg6.size
  clear hC6 hg6 hr5 e0 e1
  have e0 : w6.cell? ⟨gb, 0, none⟩ = some (.int .i64 (p : Int)) := hW.gbx.cell (j := 0) (by omega)
  have e1 : w6.cell? ⟨gb, 1, none⟩ = some (.slice go k gc) := hW.gbx.cell (j := 1) (by omega)
  go_wp2_with fail
  refine (specOrderOk_any (p : Int) go k gc F T G po' m' pc' P' (by omega) (by omega) _ hr6 hP').mono ?_
  rintro e w7 ⟨rfl, hb7⟩
  replace hr6 := hr6.below hb7 (Nat.le_refl _)
  replace hP' := hP'.below hb7 (Nat.le_refl _)
  replace hW := hW.next hb7
  have hs7 := hb7.size
  clear hb7 e0 e1
  have e0 : w7.cell? ⟨gb, 0, none⟩ = some (.int .i64 (p : Int)) := hW.gbx.cell (j := 0) (by omega)
  have e1 : w7.cell? ⟨gb, 1, none⟩ = some (.slice go k gc) := hW.gbx.cell (j := 1) (by omega)
  generalize ordB (p : Int) k F T G m' P' = bo
  cases bo
  · have r0 : w7.cell? ⟨w.heap.size, 0, none⟩ = some (.int .i64 0) := hW.rg.cell (j := 0) (by omega)
    have r1 : w7.cell? ⟨w.heap.size, 1, none⟩ = some (.slice none 0 0) := hW.rg.cell (j := 1) (by omega)
    have r2 : w7.cell? ⟨w.heap.size + 1, 0, none⟩ = some (.slice none 0 0) := hW.rh.cell (j := 0) (by omega)
    have r3 : w7.cell? ⟨w.heap.size + 1, 1, none⟩ = some (.slice none 0 0) := hW.rh.cell (j := 1) (by omega)
    have f0 : w7.cell? ⟨hb, 0, none⟩ = some (.slice po m pc) := hW.hbx.cell (j := 0) (by omega)
    have f1 : w7.cell? ⟨hb, 1, none⟩ = some (.slice eo l.length ec) := hW.hbx.cell (j := 1) (by omega)
    have z0 := hW.rg.frozen 0
    have z1 := hW.rg.frozen 1
    have z2 := hW.rh.frozen 0
    have z3 := hW.rh.frozen 1
    have hne := hW.ne
    have hlr := hW.rh.lt
    go_wp2
    go_region_law (fail)
    all_goals
      go_wp2
      have hO := hW.out hcl (.int .i64 (p : Int)) (.slice go k gc) (.slice po m pc) (.slice eo l.length ec)
      have d0 : ((((w7.setCell ⟨w.heap.size, 0, none⟩ (.int .i64 (p : Int))).setCell ⟨w.heap.size, 1, none⟩ (.slice go k gc)).setCell ⟨w.heap.size + 1, 0, none⟩ (.slice po m pc)).setCell ⟨w.heap.size + 1, 1, none⟩ (.slice eo l.length ec)).cell? ⟨w.heap.size, 0, none⟩ = some (.int .i64 (p : Int)) := by simp [go_sem, r0, r1, r2, r3]
      have d1 : ((((w7.setCell ⟨w.heap.size, 0, none⟩ (.int .i64 (p : Int))).setCell ⟨w.heap.size, 1, none⟩ (.slice go k gc)).setCell ⟨w.heap.size + 1, 0, none⟩ (.slice po m pc)).setCell ⟨w.heap.size + 1, 1, none⟩ (.slice eo l.length ec)).cell? ⟨w.heap.size, 1, none⟩ = some (.slice go k gc) := by simp [go_sem, r0, r1, r2, r3]
      have d2 : ((((w7.setCell ⟨w.heap.size, 0, none⟩ (.int .i64 (p : Int))).setCell ⟨w.heap.size, 1, none⟩ (.slice go k gc)).setCell ⟨w.heap.size + 1, 0, none⟩ (.slice po m pc)).setCell ⟨w.heap.size + 1, 1, none⟩ (.slice eo l.length ec)).cell? ⟨w.heap.size + 1, 0, none⟩ = some (.slice po m pc) := by simp [go_sem, r0, r1, r2, r3]
      have d3 : ((((w7.setCell ⟨w.heap.size, 0, none⟩ (.int .i64 (p : Int))).setCell ⟨w.heap.size, 1, none⟩ (.slice go k gc)).setCell ⟨w.heap.size + 1, 0, none⟩ (.slice po m pc)).setCell ⟨w.heap.size + 1, 1, none⟩ (.slice eo l.length ec)).cell? ⟨w.heap.size + 1, 1, none⟩ = some (.slice eo l.length ec) := by simp [go_sem, r0, r1, r2, r3]
      generalize ((((w7.setCell ⟨w.heap.size, 0, none⟩ (.int .i64 (p : Int))).setCell ⟨w.heap.size, 1, none⟩ (.slice go k gc)).setCell ⟨w.heap.size + 1, 0, none⟩ (.slice po m pc)).setCell ⟨w.heap.size + 1, 1, none⟩ (.slice eo l.length ec)) = WX at hO d0 d1 d2 d3 ⊢
      clear r0 r1 r2 r3 z0 z1 z2 z3
      simp [bodyPost, results, Tryz.results100, go_sem, d0, d1, d2, d3]
      exact ⟨p, go, k, gc, po, m, pc, P, eo, ec, l, by simp, by omega, hO.next (Below.refl _ _).drew⟩
  go_wp2_with fail
  refine (specFill_own (p : Int) go k gc F T G po' m' pc' P' (by omega) (by omega) _ hr6 hP').mono ?_
  rintro e w8 ⟨g8, ec8, l8, rfl, hl8, hE8, hb8⟩
  have hl216 : l8.length ≤ 216 := by
    rw [hl8]
    split
    · unfold lstF
      rw [Int.toNat_natCast]
      have := allS_len (B := nbA F T k) (P := P') (show p ≤ 24 by omega) p
      omega
    · simp
  have hw8 : Hid (LWf l8) := by
    show LWf l8
    rw [hl8]
    split
    · unfold lstF
      rw [Int.toNat_natCast]
      exact allS_wf (by omega) (by omega)
    · exact fun x hx => by cases hx
  clear hl8
  have hP7 := hP'
  replace hP' := hP'.below hb8 (Nat.le_refl _)
  replace hW := hW.next hb8
  have hs8 := hb8.size
  clear hb8 e0 e1 hr6
  have f0 : w8.cell? ⟨hb, 0, none⟩ = some (.slice po m pc) := hW.hbx.cell (j := 0) (by omega)
  have f1 : w8.cell? ⟨hb, 1, none⟩ = some (.slice eo l.length ec) := hW.hbx.cell (j := 1) (by omega)
  have y0 := hW.hbx.frozen 0
  have y1 := hW.hbx.frozen 1
  have hlb := hW.hbx.lt
  have hW9 := hW.setH hcl (pc' := pc') hP' (fun a e h0 => by have := hpb' a e h0; omega) (EOwnE.from (base := w7.heap.size) (show EOwnE w8 w7.heap.size (some ⟨g8, 0, none⟩) ec8 l8 from ⟨hE8, hw8.out⟩) (by omega)) (fun a x e h0 q => by
    obtain ⟨b9, o9, e9, c9⟩ := hP7 0 h0
    rw [e] at e9
    cases e9
    have h1 := lt_of_cell c9
    have h2 := hE8.base
    cases q
    simp only
    omega)
  go_wp2
  generalize ((w8.setCell ⟨hb, 0, none⟩ (.slice po' m' pc')).setCell ⟨hb, 1, none⟩ (.slice (some ⟨g8, 0, none⟩) l8.length ec8)) = W9 at hW9 ⊢
  clear hW f0 f1 y0 y1 hlb
  replace hW := hW9
  clear hW9
  have e0 : W9.cell? ⟨gb, 0, none⟩ = some (.int .i64 (p : Int)) := hW.gbx.cell (j := 0) (by omega)
  have e1 : W9.cell? ⟨gb, 1, none⟩ = some (.slice go k gc) := hW.gbx.cell (j := 1) (by omega)
  have r0 : W9.cell? ⟨w.heap.size, 0, none⟩ = some (.int .i64 0) := hW.rg.cell (j := 0) (by omega)
  have r1 : W9.cell? ⟨w.heap.size, 1, none⟩ = some (.slice none 0 0) := hW.rg.cell (j := 1) (by omega)
  have r2 : W9.cell? ⟨w.heap.size + 1, 0, none⟩ = some (.slice none 0 0) := hW.rh.cell (j := 0) (by omega)
  have r3 : W9.cell? ⟨w.heap.size + 1, 1, none⟩ = some (.slice none 0 0) := hW.rh.cell (j := 1) (by omega)
  have f0 : W9.cell? ⟨hb, 0, none⟩ = some (.slice po' m' pc') := hW.hbx.cell (j := 0) (by omega)
  have f1 : W9.cell? ⟨hb, 1, none⟩ = some (.slice (some ⟨g8, 0, none⟩) l8.length ec8) := hW.hbx.cell (j := 1) (by omega)
  have z0 := hW.rg.frozen 0
  have z1 := hW.rg.frozen 1
  have z2 := hW.rh.frozen 0
  have z3 := hW.rh.frozen 1
  have hne := hW.ne
  have hlr := hW.rh.lt
  go_wp2
  go_region_law (fail)
  all_goals
    go_wp2
    have hO := hW.out hcl (.int .i64 (p : Int)) (.slice go k gc) (.slice po' m' pc') (.slice (some ⟨g8, 0, none⟩) l8.length ec8)
    have d0 : ((((W9.setCell ⟨w.heap.size, 0, none⟩ (.int .i64 (p : Int))).setCell ⟨w.heap.size, 1, none⟩ (.slice go k gc)).setCell ⟨w.heap.size + 1, 0, none⟩ (.slice po' m' pc')).setCell ⟨w.heap.size + 1, 1, none⟩ (.slice (some ⟨g8, 0, none⟩) l8.length ec8)).cell? ⟨w.heap.size, 0, none⟩ = some (.int .i64 (p : Int)) := by simp [go_sem, r0, r1, r2, r3]
    have d1 : ((((W9.setCell ⟨w.heap.size, 0, none⟩ (.int .i64 (p : Int))).setCell ⟨w.heap.size, 1, none⟩ (.slice go k gc)).setCell ⟨w.heap.size + 1, 0, none⟩ (.slice po' m' pc')).setCell ⟨w.heap.size + 1, 1, none⟩ (.slice (some ⟨g8, 0, none⟩) l8.length ec8)).cell? ⟨w.heap.size, 1, none⟩ = some (.slice go k gc) := by simp [go_sem, r0, r1, r2, r3]
    have d2 : ((((W9.setCell ⟨w.heap.size, 0, none⟩ (.int .i64 (p : Int))).setCell ⟨w.heap.size, 1, none⟩ (.slice go k gc)).setCell ⟨w.heap.size + 1, 0, none⟩ (.slice po' m' pc')).setCell ⟨w.heap.size + 1, 1, none⟩ (.slice (some ⟨g8, 0, none⟩) l8.length ec8)).cell? ⟨w.heap.size + 1, 0, none⟩ = some (.slice po' m' pc') := by simp [go_sem, r0, r1, r2, r3]
    have d3 : ((((W9.setCell ⟨w.heap.size, 0, none⟩ (.int .i64 (p : Int))).setCell ⟨w.heap.size, 1, none⟩ (.slice go k gc)).setCell ⟨w.heap.size + 1, 0, none⟩ (.slice po' m' pc')).setCell ⟨w.heap.size + 1, 1, none⟩ (.slice (some ⟨g8, 0, none⟩) l8.length ec8)).cell? ⟨w.heap.size + 1, 1, none⟩ = some (.slice (some ⟨g8, 0, none⟩) l8.length ec8) := by simp [go_sem, r0, r1, r2, r3]
    generalize ((((W9.setCell ⟨w.heap.size, 0, none⟩ (.int .i64 (p : Int))).setCell ⟨w.heap.size, 1, none⟩ (.slice go k gc)).setCell ⟨w.heap.size + 1, 0, none⟩ (.slice po' m' pc')).setCell ⟨w.heap.size + 1, 1, none⟩ (.slice (some ⟨g8, 0, none⟩) l8.length ec8)) = WX at hO d0 d1 d2 d3 ⊢
    clear r0 r1 r2 r3 z0 z1 z2 z3
    simp [bodyPost, results, Tryz.results100, go_sem, d0, d1, d2, d3]
    exact ⟨p, go, k, gc, po', m', pc', P', some ⟨g8, 0, none⟩, ec8, l8, by simp, by omega, hO.next (Below.refl _ _).drew⟩

end Go.Proofs.YtokaechbmnbbiabGreat

/-
  The document's draw of a map and its hierarchy, right or not.
-/
set_option linter.unusedVariables false
set_option linter.unusedSimpArgs false
namespace Go.Proofs.YtokaechbmnbbiabGreat
open Go.RowKit Go.Maps Go.Deep Go.Joins
attribute [local go_sem ↓] Go.wp_at_zero Go.wp_at_succ

theorem l1FromN_any (base c : Nat) (ao : Option Addr) (n cap : Nat) (lo hi : Int) (h0 : -100 ≤ lo) (h1 : lo ≤ hi) (h2 : hi ≤ 100) (w : World) (hC : CurAt w base c ao n cap) :
    Calls Tryz.prog 103 #[.pointer (some ⟨c, 0, none⟩), .int .i64 lo, .int .i64 hi] w fun e w' => ∃ x : Int, e = .returned (.int .i64 x) ∧ (Lit.int .i64 x).wf = true ∧ CurAt w' base c ao n cap ∧ w.grownBy w' (some c) := by
  have e1 : IntKind.i64.wrap (hi - lo) = hi - lo := by rw [IntKind.wrap_i64]; omega
  have e2 : IntKind.i64.wrap (hi - lo + 1) = hi - lo + 1 := by rw [IntKind.wrap_i64]; omega
  go_enter Tryz.func103, Tryz.ntmps103
  go_wp2_with (go_at_call 64; refine (l1Below_any base c ao n cap _ (by omega) (by omega) _ hC).mono ?_; rintro e w1 ⟨x, rfl, hx, hC1, hg1⟩)
  go_ret
  refine ⟨_, rfl, ?_, hC1, hg1⟩
  first | exact lit_wf (by omega) (by omega) | (rw [IntKind.wrap_i64]; exact lit_wf (by omega) (by omega))
theorem wp_append_edgeE {w : World} {o : Oper} {a : Act} {K : Act → World → Prop} {Q : Exit → Act → World → Prop} (s x : Operand)
    (ho : o.op = .call { callee := .builtin .append, args := #[s, x], argTypes := #[28, 28] }) (base ec : Nat) (eo : Option Addr) (l : List (Int × Int)) (hs : a.eval s = .slice eo l.length ec)
    (hown : EOwnE w base eo ec l) (B c : Nat) (v u : Int) (hx : a.eval x = .slice (some ⟨B, 0, none⟩) 1 c) (h0 : w.cell? ⟨B, 0, none⟩ = some (.int .i64 v)) (h1 : w.cell? ⟨B, 1, none⟩ = some (.int .i64 u)) (hn : l.length ≤ 1000000) (hbase : base ≤ w.heap.size)
    (h : ∀ g' cap' w', EOwn w' base g' cap' (l ++ [(v, u)]) → w.grownBy w' (Value.slice eo l.length ec).ownBlock → ((Value.slice eo l.length ec).ownBlock = some g' ∨ g' = w.heap.size) → K (a.put o.dst (.slice (some ⟨g', 0, none⟩) (l.length + 1) cap')) w') : o.wp Tryz.prog a w K Q := by
  obtain ⟨i, hi, hz0, hz1, hz2⟩ := info_parts Tryz.infoEdge
  refine wp_append_lies w s x 28 ho base 62 i _ 2 16 Tryz.underlying28 hi hz0 hz1 hz2 rfl (by omega) _ l.length (ecells l) hs hown.1 ⟨B, 0, none⟩ 1 c [.int .i64 v, .int .i64 u] hx rfl (news_edge h0 h1) ?_ (by omega) (by unfold maxLen; omega) (by omega) hbase w.heap.size rfl ?_
  · intro u hu
    simp at hu
    rcases hu with rfl | rfl <;> rfl
  · intro g' cap' w' hown' hgrow hat hlt
    refine h g' cap' w' ?_ hgrow hat
    rw [ecells_snoc] at hown'
    unfold EOwn
    rw [List.length_append]
    exact hown'
theorem step_append_edgeE {w : World} {ops : Array Oper} {o : Oper} {a : Act} {K : Act → World → Prop} {Q : Exit → Act → World → Prop} {E : Prop} (hgd : o.guard = none) (s x : Operand)
    (ho : o.op = .call { callee := .builtin .append, args := #[s, x], argTypes := #[28, 28] }) (base ec : Nat) (eo : Option Addr) (l : List (Int × Int)) (hs : a.eval s = .slice eo l.length ec)
    (hown : EOwnE w base eo ec l) (B c : Nat) (v u : Int) (hx : a.eval x = .slice (some ⟨B, 0, none⟩) 1 c) (h0 : w.cell? ⟨B, 0, none⟩ = some (.int .i64 v)) (h1 : w.cell? ⟨B, 1, none⟩ = some (.int .i64 u)) (hn : l.length ≤ 1000000) (hbase : base ≤ w.heap.size)
    (h : ∀ g' cap' w', EOwn w' base g' cap' (l ++ [(v, u)]) → w.grownBy w' (Value.slice eo l.length ec).ownBlock → ((Value.slice eo l.length ec).ownBlock = some g' ∨ g' = w.heap.size) → K (a.put o.dst (.slice (some ⟨g', 0, none⟩) (l.length + 1) cap')) w') :
    if Region.wanted o (yielded ops a.tmps) = true then Oper.wp Tryz.prog o a w K Q else E := by
  have hw : Region.wanted o (yielded ops a.tmps) = true := by simp [Region.wanted, hgd]
  rw [if_pos hw]
  exact wp_append_edgeE s x ho base ec eo l hs hown B c v u hx h0 h1 hn hbase h
/-- As HW, but for what the second box holds. -/
structure HV (w : World) (base c : Nat) (ao : Option Addr) (n cap : Nat) (gb hb : Nat) (go : Option Addr) (k gc : Nat) (po : Option Addr) (m : Nat) (P : Nat → Int) (eo : Option Addr) (ec : Nat) (l : List (Int × Int)) (W : World) : Prop where
  cur : CurAt W base c ao n cap
  gr : w.grownBy W (some c)
  rg : VHas W w.heap.size 26 2 (grV 0 (.slice none 0 0))
  rh : VHas W (w.heap.size + 1) 30 2 (me2 (.slice none 0 0) (.slice none 0 0))
  arcs : AOwnE W (w.heap.size + 2) go k gc
  ord : IRow W po m P
  ordb : ∀ a, po = some a → 0 < m → w.heap.size + 2 ≤ a.block ∧ a.block ≠ gb ∧ a.block ≠ hb
  edg : EOwnE W (w.heap.size + 2) eo ec l
  ne : w.heap.size + 2 ≤ gb ∧ w.heap.size + 2 ≤ hb ∧ gb ≠ hb
  sep : ∀ a x, po = some a → 0 < m → (Value.slice eo l.length ec).ownBlock = some x → a.block ≠ x
/-- A map and a hierarchy that are drawn, in new memory: rows alone. -/
structure HR (w : World) (base c : Nat) (ao : Option Addr) (n cap : Nat) (go : Option Addr) (k gc : Nat) (po : Option Addr) (m : Nat) (P : Nat → Int) (eo : Option Addr) (q : Nat) (L H : Nat → Int) (W : World) : Prop where
  cur : CurAt W base c ao n cap
  gr : w.grownBy W (some c)
  arcs : AOwnE W w.heap.size go k gc
  ord : IRow W po m P
  ordb : ∀ a, po = some a → 0 < m → w.heap.size ≤ a.block
  edg : ERow W eo q L H
  edgb : ∀ a, eo = some a → 0 < q → w.heap.size ≤ a.block
  ewf : ∀ j, j < q → (Lit.int .i64 (L j)).wf = true ∧ (Lit.int .i64 (H j)).wf = true
section
variable {w W W' : World} {base c : Nat} {ao : Option Addr} {n cap gb hb : Nat} {p : Int} {go : Option Addr} {k gc : Nat} {po : Option Addr} {m pc : Nat} {P : Nat → Int} {eo : Option Addr} {ec : Nat} {l : List (Int × Int)}
theorem HW.hv (h : HW w base c ao n cap gb hb p go k gc po m pc P eo ec l W) : HV w base c ao n cap gb hb go k gc po m P eo ec l W := ⟨h.cur, h.gr, h.rg, h.rh, h.arcs, h.ord, h.ordb, h.edg, h.ne, h.sep⟩
theorem HV.out (h : HV w base c ao n cap gb hb go k gc po m P eo ec l W) (hc : c < w.heap.size) (v0 v1 v2 v3 : Value) :
    HD w base c ao n cap go k gc po m P eo ec l ((((W.setCell ⟨w.heap.size, 0, none⟩ v0).setCell ⟨w.heap.size, 1, none⟩ v1).setCell ⟨w.heap.size + 1, 0, none⟩ v2).setCell ⟨w.heap.size + 1, 1, none⟩ v3) := by
  have h1 := gr_setCell W w.heap.size 0 v0
  have h2 := gr_setCell (W.setCell ⟨w.heap.size, 0, none⟩ v0) w.heap.size 1 v1
  have h3 := gr_setCell ((W.setCell ⟨w.heap.size, 0, none⟩ v0).setCell ⟨w.heap.size, 1, none⟩ v1) (w.heap.size + 1) 0 v2
  have h4 := gr_setCell (((W.setCell ⟨w.heap.size, 0, none⟩ v0).setCell ⟨w.heap.size, 1, none⟩ v1).setCell ⟨w.heap.size + 1, 0, none⟩ v2) (w.heap.size + 1) 1 v3
  generalize (((W.setCell ⟨w.heap.size, 0, none⟩ v0).setCell ⟨w.heap.size, 1, none⟩ v1).setCell ⟨w.heap.size + 1, 0, none⟩ v2) = W3 at h3 h4 ⊢
  generalize ((W.setCell ⟨w.heap.size, 0, none⟩ v0).setCell ⟨w.heap.size, 1, none⟩ v1) = W2 at h2 h3
  generalize (W.setCell ⟨w.heap.size, 0, none⟩ v0) = W1 at h1 h2
  have hge := h.cur.ge
  refine ⟨(((h.cur.grown h1 (by omega) (by omega)).grown h2 (by omega) (by omega)).grown h3 (by omega) (by omega)).grown h4 (by omega) (by omega), ?_, ((((h.arcs.grown h1 (by omega)).grown h2 (by omega)).grown h3 (by omega)).grown h4 (by omega)).from (by omega), ?_, fun a e h0 => by have := h.ordb a e h0; omega, ?_, h.sep⟩
  · exact gr_far (gr_far (gr_far (gr_far h.gr h1 (fun g e => by cases e; exact Nat.le_refl _) (Nat.le_refl _)) h2 (fun g e => by cases e; exact Nat.le_refl _) (Nat.le_refl _)) h3 (fun g e => by cases e; exact Nat.le_refl _) (by omega)) h4 (fun g e => by cases e; exact Nat.le_refl _) (by omega)
  · exact (((h.ord.otherE h1 (fun a e h0 => by have := h.ordb a e h0; omega)).otherE h2 (fun a e h0 => by have := h.ordb a e h0; omega)).otherE h3 (fun a e h0 => by have := h.ordb a e h0; omega)).otherE h4 (fun a e h0 => by have := h.ordb a e h0; omega)
  · have hx : ∀ x, (Value.slice eo l.length ec).ownBlock = some x → w.heap.size + 2 ≤ x := fun x e => (h.edg.at e).1
    exact ((((h.edg.grown h1 (fun x e q => by have := hx x e; cases q; omega)).grown h2 (fun x e q => by have := hx x e; cases q; omega)).grown h3 (fun x e q => by have := hx x e; cases q; omega)).grown h4 (fun x e q => by have := hx x e; cases q; omega)).from (by omega)
theorem HD.hr (h : HD w base c ao n cap go k gc po m P eo ec l W) : HR w base c ao n cap go k gc po m P eo l.length (Lf l) (Hf l) W :=
  ⟨h.cur, h.gr, h.arcs, h.ord, h.ordb, h.edg.row, fun a e h0 => by
    obtain ⟨g, e2, h2⟩ := h.edg.some h0
    rw [e2] at e
    cases e
    exact h2.base, h.edg.2.at⟩
theorem HR.next {q : Nat} {L H : Nat → Int} (h : HR w base c ao n cap go k gc po m P eo q L H W) (hb' : Below W.heap.size W W') : HR w base c ao n cap go k gc po m P eo q L H W' :=
  ⟨h.cur.next hb', h.gr.trans ⟨hb'.os, hb'.tape, hb'.output, hb'.size, fun k hk _ => hb'.block k hk⟩, h.arcs.next hb', h.ord.below hb' (Nat.le_refl _), h.ordb, h.edg.below hb' (Nat.le_refl _), h.edgb, h.ewf⟩
theorem HD.cut2 (h : HD w base c ao n cap go k gc po m P eo ec l W) {eo' : Option Addr} {q : Nat} {L H : Nat → Int} (hE : ERow W eo' q L H) (hb' : ∀ a, eo' = some a → 0 < q → w.heap.size ≤ a.block) (hw' : ∀ j, j < q → (Lit.int .i64 (L j)).wf = true ∧ (Lit.int .i64 (H j)).wf = true) : HR w base c ao n cap go k gc po m P eo' q L H W.drew :=
  (HR.mk h.cur h.gr h.arcs h.ord h.ordb hE hb' hw').next (Below.refl _ _).drew
/-- The first edge is cut off. -/
theorem ERow.tail {W : World} {g q : Nat} {L H : Nat → Int} (h : ERow W (some ⟨g, 0, none⟩) q L H) : ERow W (some ⟨g, 2, none⟩) (q - 1) (fun j => L (j + 1)) (fun j => H (j + 1)) := fun k hk => by
  obtain ⟨b, o, e, c0, c1⟩ := h (k + 1) (by omega)
  cases e
  refine ⟨g, 2, rfl, ?_, ?_⟩
  · rw [← c0]; congr 2; omega
  · rw [← c1]; congr 2; omega
theorem HW.setG (h : HW w base c ao n cap gb hb p go k gc po m pc P eo ec l W) (hc : c < w.heap.size) {p' : Int} {go' : Option Addr} {k' gc' : Nat} (hA : AOwnE W (w.heap.size + 2) go' k' gc') :
    HW w base c ao n cap gb hb p' go' k' gc' po m pc P eo ec l ((W.setCell ⟨gb, 0, none⟩ (.int .i64 p')).setCell ⟨gb, 1, none⟩ (.slice go' k' gc')) := by
  have h1 := gr_setCell W gb 0 (.int .i64 p')
  have h2 := gr_setCell (W.setCell ⟨gb, 0, none⟩ (.int .i64 p')) gb 1 (.slice go' k' gc')
  have gbx := ((h.gbx.set 0 (.int .i64 p')).set 1 (.slice go' k' gc')).congr (g := grV p' (.slice go' k' gc')) (fun i hi => by
    have : i = 0 ∨ i = 1 := by omega
    rcases this with rfl | rfl <;> rfl)
  have hne := h.ne
  have hge := h.cur.ge
  have na : ∀ y, (Value.slice go' k' gc').ownBlock = some y → y ≠ gb := fun y e q => by
    subst q
    obtain ⟨cur, q1, _⟩ := h.gbx
    obtain ⟨g, _, _, h0 | ⟨g', cap', cur', hv, hb, hh, rest⟩⟩ := hA
    · rw [h0.1] at e; cases e
    · rw [hv] at e
      cases e
      rw [q1] at hh
      simp at hh
  have nE : ∀ y, (Value.slice eo l.length ec).ownBlock = some y → some gb ≠ some y := fun y e q => vhas_edge (by decide) h.gbx h.edg e (by simpa using q.symm)
  generalize ((W.setCell ⟨gb, 0, none⟩ (.int .i64 p')).setCell ⟨gb, 1, none⟩ (.slice go' k' gc')) = W2 at h2 gbx ⊢
  generalize (W.setCell ⟨gb, 0, none⟩ (.int .i64 p')) = W1 at h1 h2
  exact ⟨(h.cur.grown h1 (by omega) (by omega)).grown h2 (by omega) (by omega), gr_far (gr_far h.gr h1 (fun g e => by cases e; exact Nat.le_refl _) (by omega)) h2 (fun g e => by cases e; exact Nat.le_refl _) (by omega), (h.rg.grown h1 (by simp; omega)).grown h2 (by simp; omega), (h.rh.grown h1 (by simp; omega)).grown h2 (by simp; omega), gbx, (h.hbx.grown h1 (by simp; omega)).grown h2 (by simp; omega), (hA.grownN h1 na).grownN h2 na, (h.ord.otherE h1 (fun a e h0 => (h.ordb a e h0).2.1)).otherE h2 (fun a e h0 => (h.ordb a e h0).2.1), h.ordb, (h.edg.grown h1 nE).grown h2 nE, h.ne, h.sep⟩
theorem HW.setO (h : HW w base c ao n cap gb hb p go k gc po m pc P eo ec l W) (hc : c < w.heap.size) {po' : Option Addr} {m' pc' : Nat} {P' : Nat → Int} (hP : IRow W po' m' P') (hpb : ∀ a, po' = some a → 0 < m' → w.heap.size + 2 ≤ a.block ∧ a.block ≠ gb ∧ a.block ≠ hb) (hsep : ∀ a x, po' = some a → 0 < m' → (Value.slice eo l.length ec).ownBlock = some x → a.block ≠ x) :
    HW w base c ao n cap gb hb p go k gc po' m' pc' P' eo ec l (W.setCell ⟨hb, 0, none⟩ (.slice po' m' pc')) := by
  have h1 := gr_setCell W hb 0 (.slice po' m' pc')
  have hbx := (h.hbx.set 0 (.slice po' m' pc')).congr (g := me2 (.slice po' m' pc') (.slice eo l.length ec)) (fun i hi => by
    have : i = 0 ∨ i = 1 := by omega
    rcases this with rfl | rfl <;> rfl)
  have hne := h.ne
  have hge := h.cur.ge
  have na : ∀ y, (Value.slice go k gc).ownBlock = some y → y ≠ hb := fun y e => vhas_arc h.hbx h.arcs e
  have nE : ∀ y, (Value.slice eo l.length ec).ownBlock = some y → some hb ≠ some y := fun y e q => vhas_edge (by decide) h.hbx h.edg e (by simpa using q.symm)
  generalize (W.setCell ⟨hb, 0, none⟩ (.slice po' m' pc')) = W1 at h1 hbx ⊢
  exact ⟨h.cur.grown h1 (by omega) (by omega), gr_far h.gr h1 (fun g e => by cases e; exact Nat.le_refl _) (by omega), h.rg.grown h1 (by simp; omega), h.rh.grown h1 (by simp; omega), h.gbx.grown h1 (by simp; omega), hbx, h.arcs.grownN h1 na, hP.otherE h1 (fun a e h0 => (hpb a e h0).2.2), hpb, h.edg.grown h1 nE, h.ne, hsep⟩
theorem HW.cutE (h : HW w base c ao n cap gb hb p go k gc po m pc P eo ec l W) (hc : c < w.heap.size) (v : Value) : HV w base c ao n cap gb hb go k gc po m P eo ec l (W.setCell ⟨hb, 1, none⟩ v) ∧ VHas (W.setCell ⟨hb, 1, none⟩ v) gb 26 2 (grV p (.slice go k gc)) ∧ VHas (W.setCell ⟨hb, 1, none⟩ v) hb 30 2 (me2 (.slice po m pc) v) := by
  have h1 := gr_setCell W hb 1 v
  have hbx := (h.hbx.set 1 v).congr (g := me2 (.slice po m pc) v) (fun i hi => by
    have : i = 0 ∨ i = 1 := by omega
    rcases this with rfl | rfl <;> rfl)
  have hne := h.ne
  have hge := h.cur.ge
  have na : ∀ y, (Value.slice go k gc).ownBlock = some y → y ≠ hb := fun y e => vhas_arc h.hbx h.arcs e
  have nE : ∀ y, (Value.slice eo l.length ec).ownBlock = some y → some hb ≠ some y := fun y e q => vhas_edge (by decide) h.hbx h.edg e (by simpa using q.symm)
  generalize (W.setCell ⟨hb, 1, none⟩ v) = W1 at h1 hbx ⊢
  exact ⟨⟨h.cur.grown h1 (by omega) (by omega), gr_far h.gr h1 (fun g e => by cases e; exact Nat.le_refl _) (by omega), h.rg.grown h1 (by simp; omega), h.rh.grown h1 (by simp; omega), h.arcs.grownN h1 na, h.ord.otherE h1 (fun a e h0 => (h.ordb a e h0).2.2), h.ordb, h.edg.grown h1 nE, h.ne, h.sep⟩, h.gbx.grown h1 (by simp; omega), hbx⟩
theorem HW.appBox (h : HW w base c ao n cap gb hb p go k gc po m pc P eo ec l W) (hg : W.grownBy W' (Value.slice eo l.length ec).ownBlock) : VHas W' hb 30 2 (me2 (.slice po m pc) (.slice eo l.length ec)) :=
  h.hbx.grown hg (fun e => vhas_edge (by decide) h.hbx h.edg e.symm rfl)
/-- Edges put to, whichever block they lie in then. -/
theorem HW.appE (h : HW w base c ao n cap gb hb p go k gc po m pc P eo ec l W) (hc : c < w.heap.size) (hg : W.grownBy W' (Value.slice eo l.length ec).ownBlock) {g' ec' : Nat} {l' : List (Int × Int)} (hE : EOwn W' (w.heap.size + 2) g' ec' l') (hwl : LWf l') (hat : (Value.slice eo l.length ec).ownBlock = some g' ∨ g' = W.heap.size) :
    HW w base c ao n cap gb hb p go k gc po m pc P (some ⟨g', 0, none⟩) ec' l' (W'.setCell ⟨hb, 1, none⟩ (.slice (some ⟨g', 0, none⟩) l'.length ec')) := by
  have hr : ∀ x, (Value.slice eo l.length ec).ownBlock = some x → w.heap.size + 2 ≤ x := fun x e => (h.edg.at e).1
  have hne := h.ne
  have hge := h.cur.ge
  have n1 : some gb ≠ (Value.slice eo l.length ec).ownBlock := fun e => vhas_edge (by decide) h.gbx h.edg e.symm rfl
  have n2 : some hb ≠ (Value.slice eo l.length ec).ownBlock := fun e => vhas_edge (by decide) h.hbx h.edg e.symm rfl
  have na0 : ∀ y, (Value.slice go k gc).ownBlock = some y → some y ≠ (Value.slice eo l.length ec).ownBlock := fun y e q => by
    obtain ⟨f, _, _, h0 | ⟨g1, cap1, cur1, hv, hb1, hh, rest⟩⟩ := h.arcs
    · rw [h0.1] at e; cases e
    · rw [hv] at e
      cases e
      obtain ⟨⟨_, h0 | ⟨g2, cap2, cur2, hv2, hb2, hh2, rest2⟩⟩, _⟩ := h.edg
      · rw [h0.1] at q; cases q
      · rw [hv2] at q
        cases q
        rw [hh] at hh2
        simp at hh2
  have hx : IRow W' po m P := h.ord.other hg (fun a e h0 q => h.sep a a.block e h0 q.symm rfl)
  have hgbx := h.gbx.grown hg n1
  have hhbx := h.hbx.grown hg n2
  have hA : AOwnE W' (w.heap.size + 2) go k gc := h.arcs.of_block (fun y e => hg.block y (h.arcs.at e).2 (na0 y e))
  have h1 := gr_setCell W' hb 1 (.slice (some ⟨g', 0, none⟩) l'.length ec')
  have hbx := (hhbx.set 1 (.slice (some ⟨g', 0, none⟩) l'.length ec')).congr (g := me2 (.slice po m pc) (.slice (some ⟨g', 0, none⟩) l'.length ec')) (fun i hi => by
    have : i = 0 ∨ i = 1 := by omega
    rcases this with rfl | rfl <;> rfl)
  have na : ∀ y, (Value.slice go k gc).ownBlock = some y → y ≠ hb := fun y e => vhas_arc hhbx hA e
  have hE' : EOwnE W' (w.heap.size + 2) (some ⟨g', 0, none⟩) ec' l' := ⟨hE, hwl⟩
  have nE : ∀ y, (Value.slice (some (⟨g', 0, none⟩ : Addr)) l'.length ec').ownBlock = some y → some hb ≠ some y := fun y e q => vhas_edge (by decide) hhbx hE' e (by simpa using q.symm)
  have hC := CurAt.far h.cur hg hr (by omega)
  have hgr := gr_far h.gr hg hr (by omega)
  have hrg := h.rg.grown hg (fun e => by have := hr _ e.symm; omega)
  have hrh := h.rh.grown hg (fun e => by have := hr _ e.symm; omega)
  generalize (W'.setCell ⟨hb, 1, none⟩ (.slice (some ⟨g', 0, none⟩) l'.length ec')) = W1 at h1 hbx ⊢
  exact ⟨hC.grown h1 (by omega) (by omega), gr_far hgr h1 (fun g e => by cases e; exact Nat.le_refl _) (by omega), hrg.grown h1 (by simp; omega), hrh.grown h1 (by simp; omega), hgbx.grown h1 (by simp; omega), hbx, hA.grownN h1 na, hx.otherE h1 (fun a e h0 => (h.ordb a e h0).2.2), h.ordb, hE'.grown h1 nE, h.ne, fun a x e h0 q => by
    cases q
    rcases hat with q | q
    · exact h.sep a _ e h0 q
    · obtain ⟨b9, o9, e9, c9⟩ := h.ord 0 h0
      rw [e] at e9
      cases e9
      have h1 := lt_of_cell c9
      simp only
      omega⟩
end

end Go.Proofs.YtokaechbmnbbiabGreat

/-
  An answer of yes or no.
-/
set_option linter.unusedVariables false
namespace Go.Proofs.YtokaechbmnbbiabGreat
open Go

/-- What is answered: true just where what is asked holds. -/
def BAns (e : Ending) (P : Prop) : Prop := ∃ v : Bool, e = .returned (.bool v) ∧ (v = true ↔ P)
theorem bans_no {P : Prop} (h : ¬ P) : BAns (.returned (.bool false)) P := ⟨false, rfl, by simp [h]⟩
theorem bans_yes {P : Prop} (h : P) : BAns (.returned (.bool true)) P := ⟨true, rfl, by simp [h]⟩

end Go.Proofs.YtokaechbmnbbiabGreat

/-
  Which edges are as told: the document's and the program's look, each held against one plain function of the edges.
-/
set_option linter.unusedVariables false
set_option linter.unusedSimpArgs false
namespace Go.Proofs.YtokaechbmnbbiabGreat
open Go.RowKit
attribute [local go_sem ↓] Go.wp_at_zero Go.wp_at_succ

def edgeB (l h p : Int) : Bool := inB l 0 (p - 1) && inB h (l + 1) (p - 1)
def edB (p : Int) (L H : Nat → Int) : Nat → Bool
  | 0 => true
  | k + 1 => edB p L H k && (edgeB (L k) (H k) p && (k == 0 || upB (L (k - 1)) (H (k - 1)) (L k) (H k)))
def edgesB (p : Int) (n : Nat) (L H : Nat → Int) : Bool := inB p 1 24 && edB p L H n

theorem edB_no {p : Int} {L H : Nat → Int} {k : Nat} (h : edgeB (L k) (H k) p = false) : ∀ n, k < n → edB p L H n = false
  | 0, hk => by omega
  | n + 1, hk => by
    by_cases e : k = n
    · subst e; simp [edB, h]
    · simp [edB, edB_no h n (by omega)]
theorem edB_down {p : Int} {L H : Nat → Int} {k : Nat} (h0 : 0 < k) (h : upB (L (k - 1)) (H (k - 1)) (L k) (H k) = false) : ∀ n, k < n → edB p L H n = false
  | 0, hk => by omega
  | n + 1, hk => by
    by_cases e : k = n
    · subst e
      have : (k == 0) = false := by simp; omega
      simp [edB, h, this]
    · simp [edB, edB_down h0 h n (by omega)]
theorem edB_step {p : Int} {L H : Nat → Int} {k : Nat} (h : edB p L H k = true) (ha : edgeB (L k) (H k) p = true) (hu : k = 0 ∨ upB (L (k - 1)) (H (k - 1)) (L k) (H k) = true) : edB p L H (k + 1) = true := by
  rcases hu with hu | hu
  · subst hu; simp [edB, ha]
  · simp [edB, h, ha, hu]
theorem edB_at {p : Int} {L H : Nat → Int} : ∀ n, edB p L H n = true → ∀ k, k < n → edgeB (L k) (H k) p = true
  | 0, _, k, hk => by omega
  | n + 1, h, k, hk => by
    simp [edB] at h
    by_cases e : k = n
    · subst e; exact h.2.1
    · exact edB_at n h.1 k (by omega)
theorem edgeB_in {l h p : Int} (H : edgeB l h p = true) : 0 ≤ l ∧ l < h ∧ h < p := by
  simp [edgeB, inB] at H
  omega
theorem edgeB_false1 {l h p : Int} (H : inB l 0 (p - 1) = false) : edgeB l h p = false := by simp [edgeB, H]
theorem edgeB_false2 {l h p : Int} (H : inB h (l + 1) (p - 1) = false) : edgeB l h p = false := by simp [edgeB, H]
theorem edgeB_true {l h p : Int} (h1 : inB l 0 (p - 1) = true) (h2 : inB h (l + 1) (p - 1) = true) : edgeB l h p = true := by simp [edgeB, h1, h2]
theorem inB_in {x lo hi : Int} (h : inB x lo hi = true) : lo ≤ x ∧ x ≤ hi := by simpa [inB] using h

set_option maxHeartbeats 800000 in
theorem edgeOk_any (l h p : Int) (w : World) :
    Calls Tryz.prog 127 #[.agg #[.int .i64 l, .int .i64 h], .int .i64 p] w fun e w' => e = .returned (.bool (edgeB l h p)) ∧ Below w.heap.size w w' := by
  have e : edgeB l h p = (decide (0 ≤ l) && (decide (l < h) && decide (h < p))) := by
    unfold edgeB inB
    rw [Bool.eq_iff_iff]
    simp
    omega
  rw [e]
  clear e
  by_cases h1 : 0 ≤ l
  · by_cases h2 : l < h
    · by_cases h3 : h < p <;>
      · go_enter Tryz.func127, Tryz.ntmps127
        go_wp2
        go_ret
        exact ⟨by simp [h1, h2, h3], (Below.refl _ _).alloc (Nat.le_refl _) _⟩
    · go_enter Tryz.func127, Tryz.ntmps127
      go_wp2
      go_ret
      exact ⟨by simp [h2]; omega, (Below.refl _ _).alloc (Nat.le_refl _) _⟩
  · go_enter Tryz.func127, Tryz.ntmps127
    go_wp2
    go_ret
    exact ⟨by simp [h1]; omega, (Below.refl _ _).alloc (Nat.le_refl _) _⟩

end Go.Proofs.YtokaechbmnbbiabGreat

/-
  Which of two edges goes first: the program's comparison answers a number below nought just where the first one is below the second. No condition.
-/
set_option linter.unusedVariables false
set_option linter.unusedSimpArgs false
namespace Go.Proofs.YtokaechbmnbbiabGreat
open Go.RowKit
attribute [local go_sem ↓] Go.wp_at_zero Go.wp_at_succ

/-- Which one goes first. -/
def cmpI (x y : Int) : Int := if x < y then -1 else if y < x then 1 else 0
def orI (x y : Int) : Int := if x = 0 then y else x
def cmpE (l h l' h' : Int) : Int := orI (cmpI l l') (cmpI h h')
theorem cmpE_up (l h l' h' : Int) : cmpE l h l' h' < 0 ↔ upB l h l' h' = true := by
  unfold cmpE orI cmpI upB
  by_cases h1 : l < l'
  · simp [h1]
  by_cases h2 : l' < l
  · have : l ≠ l' := by omega
    simp [h1, h2, this]
  have : l = l' := by omega
  subst this
  by_cases h3 : h < h'
  · simp [h3]
  by_cases h4 : h' < h <;> simp [h3, h4]
theorem cmpE_in (l h l' h' : Int) : -1 ≤ cmpE l h l' h' ∧ cmpE l h l' h' ≤ 1 := by
  unfold cmpE orI cmpI
  by_cases h1 : l < l' <;> by_cases h2 : l' < l <;> by_cases h3 : h < h' <;> by_cases h4 : h' < h <;> simp [h1, h2, h3, h4]

theorem isNaN_any (x : Int) (w : World) : Calls Tryz.prog 131 #[.int .i64 x] w fun e w' => e = .returned (.bool false) ∧ w' = w := by
  go_enter Tryz.func131, Tryz.ntmps131
  go_wp2
  go_ret
  exact ⟨by simp, rfl⟩

theorem compare_any (x y : Int) (w : World) : Calls Tryz.prog 122 #[.int .i64 x, .int .i64 y] w fun e w' => e = .returned (.int .i64 (cmpI x y)) ∧ w' = w := by
  unfold cmpI
  by_cases h1 : x < y
  · go_enter Tryz.func122, Tryz.ntmps122
    go_wp2_with (go_at_call 131; refine (isNaN_any _ _).mono ?_; rintro e w1 ⟨rfl, rfl⟩)
    go_ret
    exact ⟨by simp [h1], rfl⟩
  by_cases h2 : y < x <;>
  · go_enter Tryz.func122, Tryz.ntmps122
    go_wp2_with (go_at_call 131; refine (isNaN_any _ _).mono ?_; rintro e w1 ⟨rfl, rfl⟩)
    go_ret
    exact ⟨by simp [h1, h2], rfl⟩

theorem or_two (b o c : Nat) (x y : Int) (w : World) (h0 : w.cell? ⟨b, o, none⟩ = some (.int .i64 x)) (h1 : w.cell? ⟨b, o + 1, none⟩ = some (.int .i64 y)) :
    Calls Tryz.prog 121 #[.slice (some ⟨b, o, none⟩) 2 c] w fun e w' => e = .returned (.int .i64 (orI x y)) ∧ w' = w := by
  unfold orI
  go_enter Tryz.func121, Tryz.ntmps121
  go_wp2
  go_loop [8] (fun i => ∃ k : Nat, k ≤ 2 ∧ i = .int .i64 k ∧ (1 ≤ k → x = 0) ∧ (2 ≤ k → y = 0)) (fun i => 2 - (intOf i).toNat)
  case atStart => exact ⟨0, by omega, rfl, fun h => by omega, fun h => by omega⟩
  case round =>
    obtain ⟨k, hk, rfl, hx, hy⟩ := hrel
    have h3 : k = 0 ∨ k = 1 ∨ k = 2 := by omega
    rcases h3 with rfl | rfl | rfl
    · clear hx hy
      by_cases e : x = 0
      · go_wp2
        go_round
        case rel => exact ⟨1, by omega, by go_num, fun _ => e, fun h => by omega⟩
        case measure => simp [intOf]
      · go_wp2
        go_ret
        exact ⟨by simp [e], rfl⟩
    · have hx := hx (by omega)
      subst hx
      clear hy
      by_cases e : y = 0
      · go_wp2
        go_round
        case rel => exact ⟨2, by omega, by go_num, by simp, fun h => e⟩
        case measure => simp [intOf]
      · go_wp2
        go_ret
        exact ⟨by simp, rfl⟩
    · have hx := hx (by omega)
      have hy := hy (by omega)
      subst hx hy
      go_wp2
      go_ret
      exact ⟨by simp, rfl⟩

theorem compareEdges_any (l h l' h' : Int) (w : World) :
    Calls Tryz.prog 90 #[.agg #[.int .i64 l, .int .i64 h], .agg #[.int .i64 l', .int .i64 h']] w fun e w' => e = .returned (.int .i64 (cmpE l h l' h')) ∧ Below w.heap.size w w' := by
  go_enter Tryz.func90, Tryz.ntmps90
  go_wp2_with fail
  have hA : Below w.heap.size w ((w.alloc (.cells #[.int .i64 l, .int .i64 h] 62)).alloc (.cells #[.int .i64 l', .int .i64 h'] 62)) := ((Below.refl _ _).alloc (Nat.le_refl _) _).alloc (by simp) _
  go_region_held3 (fun W => W.cell? ⟨w.heap.size, 0, none⟩ = some (.int .i64 l) ∧ W.cell? ⟨w.heap.size, 1, none⟩ = some (.int .i64 h) ∧ W.cell? ⟨w.heap.size + 1, 0, none⟩ = some (.int .i64 l') ∧ W.cell? ⟨w.heap.size + 1, 1, none⟩ = some (.int .i64 h'))
    (first | go_keep)
    (first | (go_at_call 122; refine (compare_any _ _ _).mono ?_; rintro e w1 ⟨rfl, rfl⟩) | (go_at_call 121; refine (or_two _ _ _ _ _ _ (by simp [go_sem]; rfl) (by simp [go_sem]; rfl)).mono ?_; rintro e w1 ⟨rfl, rfl⟩))
  go_wp2
  go_ret
  exact ⟨rfl, (hA.alloc (by simp; omega) _).drew⟩

end Go.Proofs.YtokaechbmnbbiabGreat

/-
  The program's look whether edges are as told answers 'edgesB', for every list of at most 2^20 edges.
-/
set_option linter.unusedVariables false
set_option linter.unusedSimpArgs false
namespace Go.Proofs.YtokaechbmnbbiabGreat
open Go.RowKit
attribute [local go_sem ↓] Go.wp_at_zero Go.wp_at_succ

set_option maxHeartbeats 1600000 in
theorem edgesOk_any (p : Int) (ao : Option Addr) (n cap : Nat) (L H : Nat → Int) (hn : n ≤ 1048576) (w : World) (hr : ERow w ao n L H) :
    Calls Tryz.prog 104 #[.slice ao n cap, .int .i64 p] w fun e w' => e = .returned (.bool (edgesB p n L H)) ∧ Below w.heap.size w w' := by
  by_cases h1 : p < 1
  · have h' : inB p 1 24 = false := by simp [inB]; omega
    go_enter Tryz.func104, Tryz.ntmps104
    go_wp2
    go_ret
    exact ⟨ret_bool (by simp [edgesB, h']), Below.refl _ _⟩
  by_cases h2 : 24 < p
  · have h' : inB p 1 24 = false := by simp [inB]; omega
    go_enter Tryz.func104, Tryz.ntmps104
    go_wp2
    go_ret
    exact ⟨ret_bool (by simp [edgesB, h']), Below.refl _ _⟩
  have hin : Hid (inB p 1 24 = true) := by show inB p 1 24 = true; simp [inB]; omega
  go_enter Tryz.func104, Tryz.ntmps104
  go_wp2
  go_loopw [15] (fun i wr => ∃ k : Nat, k ≤ n ∧ i = .int .i64 k ∧ edB p L H k = true ∧ Below w.heap.size w wr) (fun i _ => n - (intOf i).toNat)
  case atStart => exact ⟨0, Nat.zero_le _, rfl, rfl, Below.refl _ _⟩
  case round =>
    obtain ⟨k, hk, rfl, hok, hbel⟩ := hrel
    have HOK : Hid (edB p L H k = true) := hok
    clear hok
    by_cases hlt : k < n
    rotate_left
    · have hkn : k = n := by omega
      subst hkn
      go_wp2
      go_ret
      exact ⟨ret_bool (by simp [edgesB, hin.out, HOK.out]), hbel⟩
    obtain ⟨b, o, hao, c0, c1⟩ := (hr.below hbel (Nat.le_refl _)) k hlt
    subst hao
    have hsz := hbel.size
    rcases Bool.eq_false_or_eq_true (edgeB (L k) (H k) p) with ha | ha
    rotate_left
    · go_wp2_with (go_at_call 127; refine (edgeOk_any _ _ _ _).mono ?_; rintro e w1 ⟨rfl, hb1⟩)
      go_ret
      exact ⟨ret_bool (by simp [edgesB, edB_no ha n hlt]), below_next (hbel.alloc (by omega) _) (Nat.le_refl _) hb1⟩
    by_cases h0 : 0 < k
    rotate_left
    · have hd : decide (0 < (k : Int)) = false := by simp; omega
      go_wp2_with (go_at_call 127; refine (edgeOk_any _ _ _ _).mono ?_; rintro e w1 ⟨rfl, hb1⟩)
      have hA := below_next (hbel.alloc (by omega) _) (Nat.le_refl _) hb1
      go_quiet (fail)
      go_wp2
      go_roundw
      case rel => exact ⟨k + 1, by omega, by go_num, edB_step HOK.out ha (Or.inl (by omega)), below_drewN hA _⟩
      case measure => simp [intOf]; omega
    have hbw : b < wr.heap.size := lt_of_cell c0
    obtain ⟨b', o', hao', d0, d1⟩ := (hr.below hbel (Nat.le_refl _)) (k - 1) (by omega)
    simp only [Option.some.injEq, Addr.mk.injEq, and_true] at hao'
    obtain ⟨rfl, rfl⟩ := hao'
    have hk1 : (0 : Int) ≤ (k : Int) - 1 := by omega
    have hk2 : (k : Int) - 1 < (n : Int) := by omega
    have hk3 : IntKind.i64.wrap ((k : Int) - 1) = (k : Int) - 1 := by rw [IntKind.wrap_i64]; omega
    have hk4 : ((k : Int) - 1).toNat = k - 1 := by omega
    have hk5 : (1 : Int) ≤ (k : Int) := by omega
    have hk6 : (k : Int) ≤ (n : Int) := by omega
    have hk7 : 1 ≤ k := by omega
    have hcu := cmpE_up (L (k - 1)) (H (k - 1)) (L k) (H k)
    rcases Bool.eq_false_or_eq_true (upB (L (k - 1)) (H (k - 1)) (L k) (H k)) with hu | hu
    · have hge : ¬ 0 ≤ cmpE (L (k - 1)) (H (k - 1)) (L k) (H k) := by have := hcu.2 hu; omega
      clear hcu
      go_wp2_with (go_at_call 127; refine (edgeOk_any _ _ _ _).mono ?_; rintro e w1 ⟨rfl, hb1⟩)
      have hbw1 := unbox hb1 (by simp)
      have hA := (hbel.alloc (by omega) _).trans (hb1.mono (by simp; omega))
      have s1 := keep_cell hbw1 (Nat.le_refl _) d0
      have s2 := keep_cell hbw1 (Nat.le_refl _) d1
      have s4 := keep_cell hb1 (Nat.le_refl _) (b := wr.heap.size) (o := 0) (by simp [go_sem]; rfl)
      have s5 := keep_cell hb1 (Nat.le_refl _) (b := wr.heap.size) (o := 1) (by simp [go_sem]; rfl)
      go_region_held3 (fun w' => w'.cell? ⟨b, o + (k - 1) * 2, none⟩ = some (.int .i64 (L (k - 1))) ∧ w'.cell? ⟨b, o + (k - 1) * 2 + 1, none⟩ = some (.int .i64 (H (k - 1))) ∧ w'.cell? ⟨wr.heap.size, 0, none⟩ = some (.int .i64 (L k)) ∧ w'.cell? ⟨wr.heap.size, 1, none⟩ = some (.int .i64 (H k)))
        (first | (go_split_ands; refine ⟨?_, ?_, ?_, ?_⟩ <;> exact keep_cell hb2 (Nat.le_refl _) (by assumption)) | go_keep)
        (first | (go_at_call 90; refine (compareEdges_any _ _ _ _ _).mono ?_; rintro e w2 ⟨rfl, hb2⟩; (first | have hA := below_next hA (by simp) hb2 | have hA := below_next hA.drew (by simp) hb2)))
      go_wp2
      go_roundw
      case rel => exact ⟨k + 1, by omega, by go_num, edB_step HOK.out ha (Or.inr hu), hA⟩
      case measure => simp [intOf]; omega
    · have hge : 0 ≤ cmpE (L (k - 1)) (H (k - 1)) (L k) (H k) := by
        by_cases h : cmpE (L (k - 1)) (H (k - 1)) (L k) (H k) < 0
        · rw [hcu.1 h] at hu; cases hu
        · omega
      clear hcu
      go_wp2_with (go_at_call 127; refine (edgeOk_any _ _ _ _).mono ?_; rintro e w1 ⟨rfl, hb1⟩)
      have hbw1 := unbox hb1 (by simp)
      have hA := (hbel.alloc (by omega) _).trans (hb1.mono (by simp; omega))
      have s1 := keep_cell hbw1 (Nat.le_refl _) d0
      have s2 := keep_cell hbw1 (Nat.le_refl _) d1
      have s4 := keep_cell hb1 (Nat.le_refl _) (b := wr.heap.size) (o := 0) (by simp [go_sem]; rfl)
      have s5 := keep_cell hb1 (Nat.le_refl _) (b := wr.heap.size) (o := 1) (by simp [go_sem]; rfl)
      go_region_held3 (fun w' => w'.cell? ⟨b, o + (k - 1) * 2, none⟩ = some (.int .i64 (L (k - 1))) ∧ w'.cell? ⟨b, o + (k - 1) * 2 + 1, none⟩ = some (.int .i64 (H (k - 1))) ∧ w'.cell? ⟨wr.heap.size, 0, none⟩ = some (.int .i64 (L k)) ∧ w'.cell? ⟨wr.heap.size, 1, none⟩ = some (.int .i64 (H k)))
        (first | (go_split_ands; refine ⟨?_, ?_, ?_, ?_⟩ <;> exact keep_cell hb2 (Nat.le_refl _) (by assumption)) | go_keep)
        (first | (go_at_call 90; refine (compareEdges_any _ _ _ _ _).mono ?_; rintro e w2 ⟨rfl, hb2⟩; (first | have hA := below_next hA (by simp) hb2 | have hA := below_next hA.drew (by simp) hb2)))
      go_wp2
      go_ret
      exact ⟨ret_bool (by simp [edgesB, edB_down h0 hu n hlt]), hA⟩

end Go.Proofs.YtokaechbmnbbiabGreat

/-
  Chordal: what it asks.
-/
set_option linter.unusedVariables false
set_option linter.unusedSimpArgs false
namespace Go.Proofs.YtokaechbmnbbiabGreat
open Go.RowKit
attribute [local go_sem ↓] Go.wp_at_zero Go.wp_at_succ

/-- The edge is there. -/
def Hs (n : Nat) (L H : Nat → Int) (a b : Int) : Prop := ∃ i, i < n ∧ L i = a ∧ H i = b
/-- For each two edges of the first m with one Low, and those behind: the edge between their Highs is there. -/
def ChdTo (n : Nat) (L H : Nat → Int) (m : Nat) : Prop := ∀ i, i < m → ∀ k, i < k → k < n → (∀ j, i < j → j ≤ k → L j = L i) → Hs n L H (H i) (H k)
def Chd (p : Int) (n : Nat) (L H : Nat → Int) : Prop := edgesB p n L H = true ∧ ChdTo n L H n

end Go.Proofs.YtokaechbmnbbiabGreat
