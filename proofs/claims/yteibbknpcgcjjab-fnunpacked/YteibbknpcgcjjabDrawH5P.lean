/-
  The document's draw of a map and its hierarchy.
-/
import Derived.Test.YteibbknpcgcjjabDrawHiP
set_option linter.unusedVariables false
set_option linter.unusedSimpArgs false
namespace Go.Proofs.Yteibbknpcgcjjab
open Go.RowKit Go.Maps Go.Deep Go.Joins
attribute [local go_sem ↓] Go.wp_at_zero Go.wp_at_succ

/-- A map and a hierarchy that are drawn, in new memory. -/
structure HD (w : World) (base c : Nat) (ao : Option Addr) (n cap : Nat) (go : Option Addr) (k gc : Nat) (po : Option Addr) (m : Nat) (P : Nat → Int) (eo : Option Addr) (ec : Nat) (l : List (Int × Int)) (W : World) : Prop where
  cur : CurAt W base c ao n cap
  gr : w.grownBy W (some c)
  arcs : AOwnE W w.heap.size go k gc
  ord : IRow W po m P
  ordb : ∀ a, po = some a → 0 < m → w.heap.size ≤ a.block
  edg : EOwnE W w.heap.size eo ec l
  sep : ∀ a x, po = some a → 0 < m → (Value.slice eo l.length ec).ownBlock = some x → a.block ≠ x
theorem hi2_new (w : World) (a b : Value) : VHas (w.alloc (.cells #[a, b] 40)) w.heap.size 40 2 (me2 a b) :=
  ⟨_, Go.Deep.blk_alloc_new _ _, by simp, fun j hj => by
    have : j = 0 ∨ j = 1 := by omega
    rcases this with rfl | rfl <;> rfl⟩
theorem AOwnE.cellsB {w : World} {base n cap : Nat} {ao : Option Addr} (h : AOwnE w base ao n cap) : ∀ a, ao = some a → 0 < n → base ≤ a.block := fun a e h0 => by
  obtain ⟨F, T, G, _, h2⟩ := h.row
  obtain ⟨g, e2, hg⟩ := h2 h0
  rw [e2] at e
  cases e
  exact hg
section
variable {w W W' : World} {base c : Nat} {ao : Option Addr} {n cap gb hb : Nat} {p : Int} {go : Option Addr} {k gc : Nat} {po : Option Addr} {m pc : Nat} {P : Nat → Int} {eo : Option Addr} {ec : Nat} {l : List (Int × Int)}
theorem AOwnE.of_block {w w' : World} {base k gc : Nat} {go : Option Addr} (h : AOwnE w base go k gc) (e : ∀ x, (Value.slice go k gc).ownBlock = some x → w'.heap[x]? = w.heap[x]?) : AOwnE w' base go k gc := by
  obtain ⟨f, hw9, h1, h2⟩ := h
  refine ⟨f, hw9, h1, ?_⟩
  rcases h2 with hn | ⟨g', cap', cur, hv, hb', hgg, rest⟩
  · exact .inl hn
  · have e2 := e g' (by rw [hv]; rfl)
    exact .inr ⟨g', cap', cur, hv, hb', e2.trans hgg, rest⟩
theorem AOwnE.grownN {w w' : World} {base k gc x : Nat} {go : Option Addr} (h : AOwnE w base go k gc) (hg : w.grownBy w' (some x)) (hne : ∀ y, (Value.slice go k gc).ownBlock = some y → y ≠ x) : AOwnE w' base go k gc := h.of_block (fun y e => hg.block y (h.at e).2 (fun q => hne y e (by simpa using q)))
theorem HW.setH (h : HW w base c ao n cap gb hb p go k gc po m pc P eo ec l W) (hc : c < w.heap.size) {po' : Option Addr} {m' pc' : Nat} {P' : Nat → Int} {eo' : Option Addr} {ec' : Nat} {l' : List (Int × Int)} (hP : IRow W po' m' P') (hpb : ∀ a, po' = some a → 0 < m' → w.heap.size + 2 ≤ a.block ∧ a.block ≠ gb ∧ a.block ≠ hb) (hE : EOwnE W (w.heap.size + 2) eo' ec' l') (hsep : ∀ a x, po' = some a → 0 < m' → (Value.slice eo' l'.length ec').ownBlock = some x → a.block ≠ x) :
    HW w base c ao n cap gb hb p go k gc po' m' pc' P' eo' ec' l' ((W.setCell ⟨hb, 0, none⟩ (.slice po' m' pc')).setCell ⟨hb, 1, none⟩ (.slice eo' l'.length ec')) := by
  have h1 := gr_setCell W hb 0 (.slice po' m' pc')
  have h2 := gr_setCell (W.setCell ⟨hb, 0, none⟩ (.slice po' m' pc')) hb 1 (.slice eo' l'.length ec')
  have hbx := ((h.hbx.set 0 (.slice po' m' pc')).set 1 (.slice eo' l'.length ec')).congr (g := me2 (.slice po' m' pc') (.slice eo' l'.length ec')) (fun i hi => by
    have : i = 0 ∨ i = 1 := by omega
    rcases this with rfl | rfl <;> rfl)
  have hne := h.ne
  have hge := h.cur.ge
  have na : ∀ y, (Value.slice go k gc).ownBlock = some y → y ≠ hb := fun y e => vhas_arc h.hbx h.arcs e
  have nE : ∀ y, (Value.slice eo' l'.length ec').ownBlock = some y → some hb ≠ some y := fun y e q => vhas_edge (by decide) h.hbx hE e (by simpa using q.symm)
  generalize ((W.setCell ⟨hb, 0, none⟩ (.slice po' m' pc')).setCell ⟨hb, 1, none⟩ (.slice eo' l'.length ec')) = W2 at h2 hbx ⊢
  generalize (W.setCell ⟨hb, 0, none⟩ (.slice po' m' pc')) = W1 at h1 h2
  exact ⟨(h.cur.grown h1 (by omega) (by omega)).grown h2 (by omega) (by omega), gr_far (gr_far h.gr h1 (fun g e => by cases e; exact Nat.le_refl _) (by omega)) h2 (fun g e => by cases e; exact Nat.le_refl _) (by omega), (h.rg.grown h1 (by simp; omega)).grown h2 (by simp; omega), (h.rh.grown h1 (by simp; omega)).grown h2 (by simp; omega), (h.gbx.grown h1 (by simp; omega)).grown h2 (by simp; omega), hbx, (h.arcs.grownN h1 na).grownN h2 na, (hP.otherE h1 (fun a e h0 => (hpb a e h0).2.2)).otherE h2 (fun a e h0 => (hpb a e h0).2.2), hpb, (hE.grown h1 nE).grown h2 nE, h.ne, hsep⟩
theorem HD.next (h : HD w base c ao n cap go k gc po m P eo ec l W) (hb' : Below W.heap.size W W') : HD w base c ao n cap go k gc po m P eo ec l W' :=
  ⟨h.cur.next hb', h.gr.trans ⟨hb'.os, hb'.tape, hb'.output, hb'.size, fun k hk _ => hb'.block k hk⟩, h.arcs.next hb', h.ord.below hb' (Nat.le_refl _), h.ordb, h.edg.next hb', h.sep⟩
theorem HW.out (h : HW w base c ao n cap gb hb p go k gc po m pc P eo ec l W) (hc : c < w.heap.size) (v0 v1 v2 v3 : Value) :
    HD w base c ao n cap go k gc po m P eo ec l ((((W.setCell ⟨w.heap.size, 0, none⟩ v0).setCell ⟨w.heap.size, 1, none⟩ v1).setCell ⟨w.heap.size + 1, 0, none⟩ v2).setCell ⟨w.heap.size + 1, 1, none⟩ v3) := by
  have h1 := gr_setCell W w.heap.size 0 v0
  have h2 := gr_setCell (W.setCell ⟨w.heap.size, 0, none⟩ v0) w.heap.size 1 v1
  have h3 := gr_setCell ((W.setCell ⟨w.heap.size, 0, none⟩ v0).setCell ⟨w.heap.size, 1, none⟩ v1) (w.heap.size + 1) 0 v2
  have h4 := gr_setCell (((W.setCell ⟨w.heap.size, 0, none⟩ v0).setCell ⟨w.heap.size, 1, none⟩ v1).setCell ⟨w.heap.size + 1, 0, none⟩ v2) (w.heap.size + 1) 1 v3
  generalize (((W.setCell ⟨w.heap.size, 0, none⟩ v0).setCell ⟨w.heap.size, 1, none⟩ v1).setCell ⟨w.heap.size + 1, 0, none⟩ v2) = W3 at h3 h4 ⊢
  generalize ((W.setCell ⟨w.heap.size, 0, none⟩ v0).setCell ⟨w.heap.size, 1, none⟩ v1) = W2 at h2 h3
  generalize (W.setCell ⟨w.heap.size, 0, none⟩ v0) = W1 at h1 h2
  have hge := h.cur.ge
  refine ⟨(((h.cur.grown h1 (by omega) (by omega)).grown h2 (by omega) (by omega)).grown h3 (by omega) (by omega)).grown h4 (by omega) (by omega), ?_, ((((h.arcs.grown h1 (by omega)).grown h2 (by omega)).grown h3 (by omega)).grown h4 (by omega)).from (by omega), ?_, fun a e h0 => by have := h.ordb a e h0; omega, ?_, h.sep⟩
  · exact gr_far (gr_far (gr_far (gr_far h.gr h1 (fun g e => by cases e; exact Nat.le_refl _) (Nat.le_refl _)) h2 (fun g e => by cases e; exact Nat.le_refl _) (Nat.le_refl _)) h3 (fun g e => by cases e; exact Nat.le_refl _) (by omega)) h4 (fun g e => by cases e; exact Nat.le_refl _) (by omega)
  · exact (((h.ord.otherE h1 (fun a e h0 => by have := h.ordb a e h0; omega)).otherE h2 (fun a e h0 => by have := h.ordb a e h0; omega)).otherE h3 (fun a e h0 => by have := h.ordb a e h0; omega)).otherE h4 (fun a e h0 => by have := h.ordb a e h0; omega)
  · have hx : ∀ x, (Value.slice eo l.length ec).ownBlock = some x → w.heap.size + 2 ≤ x := fun x e => (h.edg.at e).1
    exact ((((h.edg.grown h1 (fun x e q => by have := hx x e; cases q; omega)).grown h2 (fun x e q => by have := hx x e; cases q; omega)).grown h3 (fun x e q => by have := hx x e; cases q; omega)).grown h4 (fun x e q => by have := hx x e; cases q; omega)).from (by omega)
end

set_option maxRecDepth 100000 in
set_option maxHeartbeats 4000000 in
theorem l5Draw_any (base c : Nat) (ao : Option Addr) (n cap : Nat) (w : World) (hC : CurAt w base c ao n cap) :
    Calls Try.prog 87 #[.pointer (some ⟨c, 0, none⟩)] w fun e w' => ∃ (p : Int) (go : Option Addr) (k gc : Nat) (po : Option Addr) (m pc : Nat) (P : Nat → Int) (eo : Option Addr) (ec : Nat) (l : List (Int × Int)), e = .returned (.tuple #[.agg #[.int .i64 p, .slice go k gc], .agg #[.slice po m pc, .slice eo l.length ec]]) ∧ (k ≤ 200 ∧ m ≤ 24 ∧ l.length ≤ 216) ∧ HD w base c ao n cap go k gc po m P eo ec l w' := by
  have hcl := hC.lt
  have hge := hC.ge
  have hal1 := (Below.refl w.heap.size w).alloc (Nat.le_refl _) (.cells #[.int .i64 0, .slice none 0 0] 32)
  have hal2 := (Below.refl _ (w.alloc (.cells #[.int .i64 0, .slice none 0 0] 32))).alloc (Nat.le_refl _) (.cells #[.slice none 0 0, .slice none 0 0] 40)
  have hC0 := (hC.next hal1).next hal2
  have rg := (gr_new w 0 (.slice none 0 0)).next hal2
  have rh := hi2_new (w.alloc (.cells #[.int .i64 0, .slice none 0 0] 32)) (.slice none 0 0) (.slice none 0 0)
  have gr0 : w.grownBy ((w.alloc (.cells #[.int .i64 0, .slice none 0 0] 32)).alloc (.cells #[.slice none 0 0, .slice none 0 0] 40)) (some c) := (⟨hal1.os, hal1.tape, hal1.output, hal1.size, fun k hk _ => hal1.block k hk⟩ : w.grownBy _ (some c)).trans ⟨hal2.os, hal2.tape, hal2.output, hal2.size, fun k hk _ => hal2.block k hk⟩
  have hz0 : ((w.alloc (.cells #[.int .i64 0, .slice none 0 0] 32)).alloc (.cells #[.slice none 0 0, .slice none 0 0] 40)).heap.size = w.heap.size + 2 := by simp
  go_enter Try.func87, Try.ntmps87
  go_wp2_with fail
  generalize ((w.alloc (.cells #[.int .i64 0, .slice none 0 0] 32)).alloc (.cells #[.slice none 0 0, .slice none 0 0] 40)) = W0 at hC0 rg rh gr0 hz0 ⊢
  simp only [World.size_alloc] at rh
  clear hal1 hal2
  refine (l1Draw_any base c ao n cap _ hC0).mono ?_
  rintro e w1 ⟨p, go, k, gc, rfl, ⟨hp1, hp9⟩, hk, hO1, hC1, hg1⟩
  obtain ⟨F, T, G, hr1, _⟩ := hO1.row
  replace rg := rg.grown hg1 (by simp; omega)
  replace rh := rh.grown hg1 (by simp; omega)
  replace gr0 := gr0.trans hg1
  have hs1 := hg1.size
  rw [hz0] at hO1
  clear hg1 hC0
  have ha := (fun X o => (Below.refl _ X).alloc (Nat.le_refl _) o : ∀ (X : World) (o : Obj), Below X.heap.size X (X.alloc o)) w1 (.cells #[.int .i64 (p : Int), .slice go k gc] 32)
  have gbx := gr_new w1 (p : Int) (.slice go k gc)
  replace rg := rg.next ha
  replace rh := rh.next ha
  replace hr1 := hr1.below ha (Nat.le_refl _)
  replace hO1 := hO1.next ha
  replace hC1 := hC1.next ha
  replace gr0 := gr0.trans (⟨ha.os, ha.tape, ha.output, ha.size, fun k hk _ => ha.block k hk⟩ : w1.grownBy _ (some c))
  have hs2 : (w1.alloc (.cells #[.int .i64 (p : Int), .slice go k gc] 32)).heap.size = w1.heap.size + 1 := by simp
  have q0 : (w1.alloc (.cells #[.int .i64 (p : Int), .slice go k gc] 32)).cell? ⟨w1.heap.size, 0, none⟩ = some (.int .i64 (p : Int)) := by simp [go_sem]
  have q1 : (w1.alloc (.cells #[.int .i64 (p : Int), .slice go k gc] 32)).cell? ⟨w1.heap.size, 1, none⟩ = some (.slice go k gc) := by simp [go_sem]
  clear ha
  go_wp2_with fail
  generalize (w1.alloc (.cells #[.int .i64 (p : Int), .slice go k gc] 32)) = W2 at rg rh hr1 hO1 hC1 gr0 hs2 q0 q1 gbx ⊢
  generalize w1.heap.size = gb at gbx q0 q1 hs2 hs1 ⊢
  refine (specNewHier_ex (p : Int) go k gc F T G (by omega) (by omega) _ hr1).mono ?_
  rintro e w3 ⟨po, m, pc, P, eo, ec, l, rfl, hm, hl, hpb, hP, hE, hsp, hb3⟩
  have ha := (fun X o => (Below.refl _ X).alloc (Nat.le_refl _) o : ∀ (X : World) (o : Obj), Below X.heap.size X (X.alloc o)) w3 (.cells #[.slice po m pc, .slice eo l.length ec] 40)
  have hs3 := hb3.size
  have hW : HW w base c ao n cap gb w3.heap.size p go k gc po m pc P eo ec l (w3.alloc (.cells #[.slice po m pc, .slice eo l.length ec] 40)) :=
    ⟨(hC1.next hb3).next ha, (gr0.trans ⟨hb3.os, hb3.tape, hb3.output, hb3.size, fun k hk _ => hb3.block k hk⟩).trans ⟨ha.os, ha.tape, ha.output, ha.size, fun k hk _ => ha.block k hk⟩, (rg.next hb3).next ha, (rh.next hb3).next ha, (gbx.next hb3).next ha, hi2_new _ _ _, (hO1.next hb3).next ha, hP.below ha (Nat.le_refl _), fun a e h0 => by have := hpb a e h0; omega, (hE.from (by omega)).next ha, by omega, hsp⟩
  replace hr1 := (hr1.below hb3 (Nat.le_refl _)).below ha (Nat.le_refl _)
  have hgo := hW.arcs.cellsB
  have hs4 : (w3.alloc (.cells #[.slice po m pc, .slice eo l.length ec] 40)).heap.size = w3.heap.size + 1 := by simp
  clear ha rg rh gbx hO1 hC1 gr0 hP hE hpb hb3 q0 q1
  go_wp2_with fail
  generalize (w3.alloc (.cells #[.slice po m pc, .slice eo l.length ec] 40)) = W4 at hW hr1 hs4 ⊢
  generalize w3.heap.size = hb at hW hs4 hs3 ⊢
  refine (l1Once_any base c ao n cap 2 (by omega) (by omega) _ hW.cur).mono ?_
  rintro e w5 ⟨bx, rfl, hC5, hg5⟩
  have hr5 : Row w5 go k F T G := hr1.otherB hg5 (fun a e h0 q => by have := hgo a e h0; simp at q; omega)
  replace hW := hW.step hcl hC5 hg5
  have hs5 := hg5.size
  clear hC5 hg5 hr1
  have e0 : w5.cell? ⟨gb, 0, none⟩ = some (.int .i64 (p : Int)) := hW.gbx.cell (j := 0) (by omega)
  have e1 : w5.cell? ⟨gb, 1, none⟩ = some (.slice go k gc) := hW.gbx.cell (j := 1) (by omega)
  cases bx
  · have r0 : w5.cell? ⟨w.heap.size, 0, none⟩ = some (.int .i64 0) := hW.rg.cell (j := 0) (by omega)
    have r1 : w5.cell? ⟨w.heap.size, 1, none⟩ = some (.slice none 0 0) := hW.rg.cell (j := 1) (by omega)
    have r2 : w5.cell? ⟨w.heap.size + 1, 0, none⟩ = some (.slice none 0 0) := hW.rh.cell (j := 0) (by omega)
    have r3 : w5.cell? ⟨w.heap.size + 1, 1, none⟩ = some (.slice none 0 0) := hW.rh.cell (j := 1) (by omega)
    have f0 : w5.cell? ⟨hb, 0, none⟩ = some (.slice po m pc) := hW.hbx.cell (j := 0) (by omega)
    have f1 : w5.cell? ⟨hb, 1, none⟩ = some (.slice eo l.length ec) := hW.hbx.cell (j := 1) (by omega)
    have z0 := hW.rg.frozen 0
    have z1 := hW.rg.frozen 1
    have z2 := hW.rh.frozen 0
    have z3 := hW.rh.frozen 1
    have hne := hW.ne
    have hlr := hW.rh.lt
    go_wp2
    go_region_law (fail)
    all_goals
      go_wp2
      have hO := hW.out hcl (.int .i64 (p : Int)) (.slice go k gc) (.slice po m pc) (.slice eo l.length ec)
      have d0 : ((((w5.setCell ⟨w.heap.size, 0, none⟩ (.int .i64 (p : Int))).setCell ⟨w.heap.size, 1, none⟩ (.slice go k gc)).setCell ⟨w.heap.size + 1, 0, none⟩ (.slice po m pc)).setCell ⟨w.heap.size + 1, 1, none⟩ (.slice eo l.length ec)).cell? ⟨w.heap.size, 0, none⟩ = some (.int .i64 (p : Int)) := by simp [go_sem, r0, r1, r2, r3]
      have d1 : ((((w5.setCell ⟨w.heap.size, 0, none⟩ (.int .i64 (p : Int))).setCell ⟨w.heap.size, 1, none⟩ (.slice go k gc)).setCell ⟨w.heap.size + 1, 0, none⟩ (.slice po m pc)).setCell ⟨w.heap.size + 1, 1, none⟩ (.slice eo l.length ec)).cell? ⟨w.heap.size, 1, none⟩ = some (.slice go k gc) := by simp [go_sem, r0, r1, r2, r3]
      have d2 : ((((w5.setCell ⟨w.heap.size, 0, none⟩ (.int .i64 (p : Int))).setCell ⟨w.heap.size, 1, none⟩ (.slice go k gc)).setCell ⟨w.heap.size + 1, 0, none⟩ (.slice po m pc)).setCell ⟨w.heap.size + 1, 1, none⟩ (.slice eo l.length ec)).cell? ⟨w.heap.size + 1, 0, none⟩ = some (.slice po m pc) := by simp [go_sem, r0, r1, r2, r3]
      have d3 : ((((w5.setCell ⟨w.heap.size, 0, none⟩ (.int .i64 (p : Int))).setCell ⟨w.heap.size, 1, none⟩ (.slice go k gc)).setCell ⟨w.heap.size + 1, 0, none⟩ (.slice po m pc)).setCell ⟨w.heap.size + 1, 1, none⟩ (.slice eo l.length ec)).cell? ⟨w.heap.size + 1, 1, none⟩ = some (.slice eo l.length ec) := by simp [go_sem, r0, r1, r2, r3]
      generalize ((((w5.setCell ⟨w.heap.size, 0, none⟩ (.int .i64 (p : Int))).setCell ⟨w.heap.size, 1, none⟩ (.slice go k gc)).setCell ⟨w.heap.size + 1, 0, none⟩ (.slice po m pc)).setCell ⟨w.heap.size + 1, 1, none⟩ (.slice eo l.length ec)) = WX at hO d0 d1 d2 d3 ⊢
      clear r0 r1 r2 r3 z0 z1 z2 z3
      simp [bodyPost, results, Try.results87, go_sem, d0, d1, d2, d3]
      exact ⟨p, go, k, gc, po, m, pc, P, eo, ec, l, by simp, by omega, hO.next (Below.refl _ _).drew⟩
  go_wp2_with fail
  refine (l3DrawOrder_any base c ao n cap (p : Int) go k gc F T G (by omega) _ hW.cur hr5).mono ?_
  rintro e w6 ⟨po', m', pc', P', rfl, hm', hpb', hP', hC6, hg6⟩
  have hr6 : Row w6 go k F T G := hr5.otherB hg6 (fun a e h0 q => by have := hgo a e h0; simp at q; omega)
  replace hW := hW.step hcl hC6 hg6
  have hs6 := hg6.size
  clear hC6 hg6 hr5 e0 e1
  have e0 : w6.cell? ⟨gb, 0, none⟩ = some (.int .i64 (p : Int)) := hW.gbx.cell (j := 0) (by omega)
  have e1 : w6.cell? ⟨gb, 1, none⟩ = some (.slice go k gc) := hW.gbx.cell (j := 1) (by omega)
  go_wp2_with fail
  refine (specOrderOk_any (p : Int) go k gc F T G po' m' pc' P' (by omega) (by omega) _ hr6 hP').mono ?_
  rintro e w7 ⟨rfl, hb7⟩
  replace hr6 := hr6.below hb7 (Nat.le_refl _)
  replace hP' := hP'.below hb7 (Nat.le_refl _)
  replace hW := hW.next hb7
  have hs7 := hb7.size
  clear hb7 e0 e1
  have e0 : w7.cell? ⟨gb, 0, none⟩ = some (.int .i64 (p : Int)) := hW.gbx.cell (j := 0) (by omega)
  have e1 : w7.cell? ⟨gb, 1, none⟩ = some (.slice go k gc) := hW.gbx.cell (j := 1) (by omega)
  generalize ordB (p : Int) k F T G m' P' = bo
  cases bo
  · have r0 : w7.cell? ⟨w.heap.size, 0, none⟩ = some (.int .i64 0) := hW.rg.cell (j := 0) (by omega)
    have r1 : w7.cell? ⟨w.heap.size, 1, none⟩ = some (.slice none 0 0) := hW.rg.cell (j := 1) (by omega)
    have r2 : w7.cell? ⟨w.heap.size + 1, 0, none⟩ = some (.slice none 0 0) := hW.rh.cell (j := 0) (by omega)
    have r3 : w7.cell? ⟨w.heap.size + 1, 1, none⟩ = some (.slice none 0 0) := hW.rh.cell (j := 1) (by omega)
    have f0 : w7.cell? ⟨hb, 0, none⟩ = some (.slice po m pc) := hW.hbx.cell (j := 0) (by omega)
    have f1 : w7.cell? ⟨hb, 1, none⟩ = some (.slice eo l.length ec) := hW.hbx.cell (j := 1) (by omega)
    have z0 := hW.rg.frozen 0
    have z1 := hW.rg.frozen 1
    have z2 := hW.rh.frozen 0
    have z3 := hW.rh.frozen 1
    have hne := hW.ne
    have hlr := hW.rh.lt
    go_wp2
    go_region_law (fail)
    all_goals
      go_wp2
      have hO := hW.out hcl (.int .i64 (p : Int)) (.slice go k gc) (.slice po m pc) (.slice eo l.length ec)
      have d0 : ((((w7.setCell ⟨w.heap.size, 0, none⟩ (.int .i64 (p : Int))).setCell ⟨w.heap.size, 1, none⟩ (.slice go k gc)).setCell ⟨w.heap.size + 1, 0, none⟩ (.slice po m pc)).setCell ⟨w.heap.size + 1, 1, none⟩ (.slice eo l.length ec)).cell? ⟨w.heap.size, 0, none⟩ = some (.int .i64 (p : Int)) := by simp [go_sem, r0, r1, r2, r3]
      have d1 : ((((w7.setCell ⟨w.heap.size, 0, none⟩ (.int .i64 (p : Int))).setCell ⟨w.heap.size, 1, none⟩ (.slice go k gc)).setCell ⟨w.heap.size + 1, 0, none⟩ (.slice po m pc)).setCell ⟨w.heap.size + 1, 1, none⟩ (.slice eo l.length ec)).cell? ⟨w.heap.size, 1, none⟩ = some (.slice go k gc) := by simp [go_sem, r0, r1, r2, r3]
      have d2 : ((((w7.setCell ⟨w.heap.size, 0, none⟩ (.int .i64 (p : Int))).setCell ⟨w.heap.size, 1, none⟩ (.slice go k gc)).setCell ⟨w.heap.size + 1, 0, none⟩ (.slice po m pc)).setCell ⟨w.heap.size + 1, 1, none⟩ (.slice eo l.length ec)).cell? ⟨w.heap.size + 1, 0, none⟩ = some (.slice po m pc) := by simp [go_sem, r0, r1, r2, r3]
      have d3 : ((((w7.setCell ⟨w.heap.size, 0, none⟩ (.int .i64 (p : Int))).setCell ⟨w.heap.size, 1, none⟩ (.slice go k gc)).setCell ⟨w.heap.size + 1, 0, none⟩ (.slice po m pc)).setCell ⟨w.heap.size + 1, 1, none⟩ (.slice eo l.length ec)).cell? ⟨w.heap.size + 1, 1, none⟩ = some (.slice eo l.length ec) := by simp [go_sem, r0, r1, r2, r3]
      generalize ((((w7.setCell ⟨w.heap.size, 0, none⟩ (.int .i64 (p : Int))).setCell ⟨w.heap.size, 1, none⟩ (.slice go k gc)).setCell ⟨w.heap.size + 1, 0, none⟩ (.slice po m pc)).setCell ⟨w.heap.size + 1, 1, none⟩ (.slice eo l.length ec)) = WX at hO d0 d1 d2 d3 ⊢
      clear r0 r1 r2 r3 z0 z1 z2 z3
      simp [bodyPost, results, Try.results87, go_sem, d0, d1, d2, d3]
      exact ⟨p, go, k, gc, po, m, pc, P, eo, ec, l, by simp, by omega, hO.next (Below.refl _ _).drew⟩
  go_wp2_with fail
  refine (specFill_own (p : Int) go k gc F T G po' m' pc' P' (by omega) (by omega) _ hr6 hP').mono ?_
  rintro e w8 ⟨g8, ec8, l8, rfl, hl8, hE8, hb8⟩
  have hl216 : l8.length ≤ 216 := by
    rw [hl8]
    split
    · unfold lstF
      rw [Int.toNat_natCast]
      have := allS_len (B := nbA F T k) (P := P') (show p ≤ 24 by omega) p
      omega
    · simp
  have hw8 : Hid (LWf l8) := by
    show LWf l8
    rw [hl8]
    split
    · unfold lstF
      rw [Int.toNat_natCast]
      exact allS_wf (by omega) (by omega)
    · exact fun x hx => by cases hx
  clear hl8
  have hP7 := hP'
  replace hP' := hP'.below hb8 (Nat.le_refl _)
  replace hW := hW.next hb8
  have hs8 := hb8.size
  clear hb8 e0 e1 hr6
  have f0 : w8.cell? ⟨hb, 0, none⟩ = some (.slice po m pc) := hW.hbx.cell (j := 0) (by omega)
  have f1 : w8.cell? ⟨hb, 1, none⟩ = some (.slice eo l.length ec) := hW.hbx.cell (j := 1) (by omega)
  have y0 := hW.hbx.frozen 0
  have y1 := hW.hbx.frozen 1
  have hlb := hW.hbx.lt
  have hW9 := hW.setH hcl (pc' := pc') hP' (fun a e h0 => by have := hpb' a e h0; omega) (EOwnE.from (base := w7.heap.size) (show EOwnE w8 w7.heap.size (some ⟨g8, 0, none⟩) ec8 l8 from ⟨hE8, hw8.out⟩) (by omega)) (fun a x e h0 q => by
    obtain ⟨b9, o9, e9, c9⟩ := hP7 0 h0
    rw [e] at e9
    cases e9
    have h1 := lt_of_cell c9
    have h2 := hE8.base
    cases q
    simp only
    omega)
  go_wp2
  generalize ((w8.setCell ⟨hb, 0, none⟩ (.slice po' m' pc')).setCell ⟨hb, 1, none⟩ (.slice (some ⟨g8, 0, none⟩) l8.length ec8)) = W9 at hW9 ⊢
  clear hW f0 f1 y0 y1 hlb
  replace hW := hW9
  clear hW9
  have e0 : W9.cell? ⟨gb, 0, none⟩ = some (.int .i64 (p : Int)) := hW.gbx.cell (j := 0) (by omega)
  have e1 : W9.cell? ⟨gb, 1, none⟩ = some (.slice go k gc) := hW.gbx.cell (j := 1) (by omega)
  have r0 : W9.cell? ⟨w.heap.size, 0, none⟩ = some (.int .i64 0) := hW.rg.cell (j := 0) (by omega)
  have r1 : W9.cell? ⟨w.heap.size, 1, none⟩ = some (.slice none 0 0) := hW.rg.cell (j := 1) (by omega)
  have r2 : W9.cell? ⟨w.heap.size + 1, 0, none⟩ = some (.slice none 0 0) := hW.rh.cell (j := 0) (by omega)
  have r3 : W9.cell? ⟨w.heap.size + 1, 1, none⟩ = some (.slice none 0 0) := hW.rh.cell (j := 1) (by omega)
  have f0 : W9.cell? ⟨hb, 0, none⟩ = some (.slice po' m' pc') := hW.hbx.cell (j := 0) (by omega)
  have f1 : W9.cell? ⟨hb, 1, none⟩ = some (.slice (some ⟨g8, 0, none⟩) l8.length ec8) := hW.hbx.cell (j := 1) (by omega)
  have z0 := hW.rg.frozen 0
  have z1 := hW.rg.frozen 1
  have z2 := hW.rh.frozen 0
  have z3 := hW.rh.frozen 1
  have hne := hW.ne
  have hlr := hW.rh.lt
  go_wp2
  go_region_law (fail)
  all_goals
    go_wp2
    have hO := hW.out hcl (.int .i64 (p : Int)) (.slice go k gc) (.slice po' m' pc') (.slice (some ⟨g8, 0, none⟩) l8.length ec8)
    have d0 : ((((W9.setCell ⟨w.heap.size, 0, none⟩ (.int .i64 (p : Int))).setCell ⟨w.heap.size, 1, none⟩ (.slice go k gc)).setCell ⟨w.heap.size + 1, 0, none⟩ (.slice po' m' pc')).setCell ⟨w.heap.size + 1, 1, none⟩ (.slice (some ⟨g8, 0, none⟩) l8.length ec8)).cell? ⟨w.heap.size, 0, none⟩ = some (.int .i64 (p : Int)) := by simp [go_sem, r0, r1, r2, r3]
    have d1 : ((((W9.setCell ⟨w.heap.size, 0, none⟩ (.int .i64 (p : Int))).setCell ⟨w.heap.size, 1, none⟩ (.slice go k gc)).setCell ⟨w.heap.size + 1, 0, none⟩ (.slice po' m' pc')).setCell ⟨w.heap.size + 1, 1, none⟩ (.slice (some ⟨g8, 0, none⟩) l8.length ec8)).cell? ⟨w.heap.size, 1, none⟩ = some (.slice go k gc) := by simp [go_sem, r0, r1, r2, r3]
    have d2 : ((((W9.setCell ⟨w.heap.size, 0, none⟩ (.int .i64 (p : Int))).setCell ⟨w.heap.size, 1, none⟩ (.slice go k gc)).setCell ⟨w.heap.size + 1, 0, none⟩ (.slice po' m' pc')).setCell ⟨w.heap.size + 1, 1, none⟩ (.slice (some ⟨g8, 0, none⟩) l8.length ec8)).cell? ⟨w.heap.size + 1, 0, none⟩ = some (.slice po' m' pc') := by simp [go_sem, r0, r1, r2, r3]
    have d3 : ((((W9.setCell ⟨w.heap.size, 0, none⟩ (.int .i64 (p : Int))).setCell ⟨w.heap.size, 1, none⟩ (.slice go k gc)).setCell ⟨w.heap.size + 1, 0, none⟩ (.slice po' m' pc')).setCell ⟨w.heap.size + 1, 1, none⟩ (.slice (some ⟨g8, 0, none⟩) l8.length ec8)).cell? ⟨w.heap.size + 1, 1, none⟩ = some (.slice (some ⟨g8, 0, none⟩) l8.length ec8) := by simp [go_sem, r0, r1, r2, r3]
    generalize ((((W9.setCell ⟨w.heap.size, 0, none⟩ (.int .i64 (p : Int))).setCell ⟨w.heap.size, 1, none⟩ (.slice go k gc)).setCell ⟨w.heap.size + 1, 0, none⟩ (.slice po' m' pc')).setCell ⟨w.heap.size + 1, 1, none⟩ (.slice (some ⟨g8, 0, none⟩) l8.length ec8)) = WX at hO d0 d1 d2 d3 ⊢
    clear r0 r1 r2 r3 z0 z1 z2 z3
    simp [bodyPost, results, Try.results87, go_sem, d0, d1, d2, d3]
    exact ⟨p, go, k, gc, po', m', pc', P', some ⟨g8, 0, none⟩, ec8, l8, by simp, by omega, hO.next (Below.refl _ _).drew⟩

end Go.Proofs.Yteibbknpcgcjjab
