/-
  A metric that is drawn: what stands while it is.
-/
import Derived.Test.YtokaechbmnbbiabGreatPack6
import Derived.Test.YtokaechbmnbbiabGreatCusDP
set_option linter.unusedVariables false
set_option linter.unusedSimpArgs false
namespace Go.Proofs.YtokaechbmnbbiabGreat
open Go.RowKit Go.Maps Go.Deep Go.Joins
attribute [local go_sem ↓] Go.wp_at_zero Go.wp_at_succ

structure MX (w : World) (base c : Nat) (ao : Option Addr) (n cap : Nat) (mb : Nat) (uo : Option Addr) (uc : Nat) (vo : Option Addr) (vc M : Nat) (U V : Nat → Int) (W : World) : Prop where
  cur : CurAt W base c ao n cap
  gr : w.grownBy W (some c)
  res : VHas W (w.heap.size + 2) 34 2 (me2 (.slice none 0 0) (.slice none 0 0))
  box : VHas W mb 34 2 (me2 (.slice uo M uc) (.slice vo M vc))
  own : 0 < M → ∃ b d, uo = some ⟨b, 0, none⟩ ∧ vo = some ⟨d, 0, none⟩ ∧ w.heap.size + 3 ≤ b ∧ w.heap.size + 3 ≤ d ∧ b ≠ d ∧ b ≠ mb ∧ d ≠ mb ∧ IHas W b M U ∧ IHas W d M V ∧ Cap W d vc ∧ M ≤ uc
  ge : w.heap.size + 3 ≤ mb
structure HM (w : World) (base c : Nat) (ao : Option Addr) (n cap : Nat) (uo : Option Addr) (u : Nat) (U : Nat → Int) (vo : Option Addr) (v : Nat) (V : Nat → Int) (W : World) : Prop where
  cur : CurAt W base c ao n cap
  gr : w.grownBy W (some c)
  up : IRow W uo u U
  upb : ∀ a, uo = some a → 0 < u → w.heap.size ≤ a.block
  dn : IRow W vo v V
  dnb : ∀ a, vo = some a → 0 < v → w.heap.size ≤ a.block
section
variable {w W W' : World} {base c : Nat} {ao : Option Addr} {n cap mb : Nat} {uo vo : Option Addr} {uc vc M : Nat} {U V : Nat → Int}
theorem MX.next (h : MX w base c ao n cap mb uo uc vo vc M U V W) (hb : Below W.heap.size W W') : MX w base c ao n cap mb uo uc vo vc M U V W' :=
  ⟨h.cur.next hb, h.gr.trans ⟨hb.os, hb.tape, hb.output, hb.size, fun k hk _ => hb.block k hk⟩, h.res.next hb, h.box.next hb, fun h0 => by
    obtain ⟨b, d, e1, e2, g1, g2, n1, n2, n3, i1, i2, i3, i4⟩ := h.own h0
    exact ⟨b, d, e1, e2, g1, g2, n1, n2, n3, i1.below hb i1.lt, i2.below hb i2.lt, i3.of_block (hb.block d i3.lt), i4⟩, h.ge⟩
theorem MX.step (h : MX w base c ao n cap mb uo uc vo vc M U V W) (hc : c < w.heap.size) (hC : CurAt W' base c ao n cap) (hg : W.grownBy W' (some c)) : MX w base c ao n cap mb uo uc vo vc M U V W' := by
  have hge := h.ge
  exact ⟨hC, h.gr.trans hg, h.res.grown hg (by simp; omega), h.box.grown hg (by simp; omega), fun h0 => by
    obtain ⟨b, d, e1, e2, g1, g2, n1, n2, n3, i1, i2, i3, i4⟩ := h.own h0
    exact ⟨b, d, e1, e2, g1, g2, n1, n2, n3, i1.grown hg (by simp; omega), i2.grown hg (by simp; omega), i3.of_block (hg.block d i3.lt (by simp; omega)), i4⟩, h.ge⟩
theorem mx_new {W0 : World} (hcur : CurAt W base c ao n cap) (hgr : w.grownBy W (some c)) (hres : VHas W (w.heap.size + 2) 34 2 (me2 (.slice none 0 0) (.slice none 0 0))) (hs : w.heap.size + 3 ≤ W0.heap.size) (hs2 : W0.heap.size ≤ W.heap.size)
    (hown : 0 < M → ∃ b d, uo = some ⟨b, 0, none⟩ ∧ vo = some ⟨d, 0, none⟩ ∧ W0.heap.size ≤ b ∧ W0.heap.size ≤ d ∧ b ≠ d ∧ IHas W b M U ∧ IHas W d M V ∧ Cap W d vc ∧ M ≤ uc) :
    MX w base c ao n cap W.heap.size uo uc vo vc M U V (W.alloc (.cells #[.slice uo M uc, .slice vo M vc] 34)) := by
  have ha := (Below.refl W.heap.size W).alloc (Nat.le_refl _) (.cells #[.slice uo M uc, .slice vo M vc] 34)
  exact ⟨hcur.next ha, hgr.trans ⟨ha.os, ha.tape, ha.output, ha.size, fun k hk _ => ha.block k hk⟩, hres.next ha, me2_new _ _ _, fun h0 => by
    obtain ⟨b, d, e1, e2, g1, g2, n1, i1, i2, i3, i4⟩ := hown h0
    have := i1.lt
    have := i2.lt
    exact ⟨b, d, e1, e2, by omega, by omega, n1, by omega, by omega, i1.below ha i1.lt, i2.below ha i2.lt, i3.of_block (ha.block d i3.lt), i4⟩, by omega⟩
theorem hm_out {u v : Nat} (hcur : CurAt W base c ao n cap) (hc : c < w.heap.size) (hgr : w.grownBy W (some c)) (hu : IRow W uo u U) (hub : ∀ a, uo = some a → 0 < u → w.heap.size + 3 ≤ a.block) (hv : IRow W vo v V) (hvb : ∀ a, vo = some a → 0 < v → w.heap.size + 3 ≤ a.block) (v0 v1 : Value) :
    HM w base c ao n cap uo u U vo v V ((W.setCell ⟨w.heap.size + 2, 0, none⟩ v0).setCell ⟨w.heap.size + 2, 1, none⟩ v1) := by
  have h1 := gr_setCell W (w.heap.size + 2) 0 v0
  have h2 := gr_setCell (W.setCell ⟨w.heap.size + 2, 0, none⟩ v0) (w.heap.size + 2) 1 v1
  generalize ((W.setCell ⟨w.heap.size + 2, 0, none⟩ v0).setCell ⟨w.heap.size + 2, 1, none⟩ v1) = W2 at h2 ⊢
  generalize (W.setCell ⟨w.heap.size + 2, 0, none⟩ v0) = W1 at h1 h2
  have hge := hcur.ge
  exact ⟨(hcur.grown h1 (by omega) (by omega)).grown h2 (by omega) (by omega), gr_far (gr_far hgr h1 (fun g e => by cases e; exact Nat.le_refl _) (by omega)) h2 (fun g e => by cases e; exact Nat.le_refl _) (by omega), (hu.otherE h1 (fun a e h0 => by have := hub a e h0; omega)).otherE h2 (fun a e h0 => by have := hub a e h0; omega), fun a e h0 => by have := hub a e h0; omega, (hv.otherE h1 (fun a e h0 => by have := hvb a e h0; omega)).otherE h2 (fun a e h0 => by have := hvb a e h0; omega), fun a e h0 => by have := hvb a e h0; omega⟩
theorem HM.next {u v : Nat} (h : HM w base c ao n cap uo u U vo v V W) (hb : Below W.heap.size W W') : HM w base c ao n cap uo u U vo v V W' :=
  ⟨h.cur.next hb, h.gr.trans ⟨hb.os, hb.tape, hb.output, hb.size, fun k hk _ => hb.block k hk⟩, h.up.below hb (Nat.le_refl _), h.upb, h.dn.below hb (Nat.le_refl _), h.dnb⟩
theorem MX.setU {b d : Nat} (h : MX w base c ao n cap mb (some ⟨b, 0, none⟩) uc (some ⟨d, 0, none⟩) vc M U V W) (h0 : 0 < M) (hc : c < w.heap.size) (x : Nat) (v : Int) : MX w base c ao n cap mb (some ⟨b, 0, none⟩) uc (some ⟨d, 0, none⟩) vc M (fun j => if j = x then v else U j) V (W.setCell ⟨b, x, none⟩ (.int .i64 v)) := by
  have h1 := gr_setCell W b x (.int .i64 v)
  have hge := h.ge
  have hcg := h.cur.ge
  obtain ⟨b', d', e1, e2, g1, g2, n1, n2, n3, i1, i2, i3, i4⟩ := h.own h0
  cases e1
  cases e2
  refine ⟨h.cur.grown h1 (by omega) (by omega), gr_far h.gr h1 (fun g e => by cases e; exact Nat.le_refl _) (by omega), h.res.grown h1 (by simp; omega), h.box.grown h1 (by simp; omega), fun _ => ⟨b, d, rfl, rfl, g1, g2, n1, n2, n3, i1.set x v, i2.grown h1 (by simp; omega), i3.of_block (h1.block d i3.lt (by simp; omega)), i4⟩, h.ge⟩
theorem MX.setD {b d : Nat} (h : MX w base c ao n cap mb (some ⟨b, 0, none⟩) uc (some ⟨d, 0, none⟩) vc M U V W) (h0 : 0 < M) (hc : c < w.heap.size) (x : Nat) (v : Int) : MX w base c ao n cap mb (some ⟨b, 0, none⟩) uc (some ⟨d, 0, none⟩) vc M U (fun j => if j = x then v else V j) (W.setCell ⟨d, x, none⟩ (.int .i64 v)) := by
  have h1 := gr_setCell W d x (.int .i64 v)
  have hge := h.ge
  have hcg := h.cur.ge
  obtain ⟨b', d', e1, e2, g1, g2, n1, n2, n3, i1, i2, i3, i4⟩ := h.own h0
  cases e1
  cases e2
  refine ⟨h.cur.grown h1 (by omega) (by omega), gr_far h.gr h1 (fun g e => by cases e; exact Nat.le_refl _) (by omega), h.res.grown h1 (by simp; omega), h.box.grown h1 (by simp; omega), fun _ => ⟨b, d, rfl, rfl, g1, g2, n1, n2, n3, i1.grown h1 (by simp; omega), i2.set x v, i3.set x _, i4⟩, h.ge⟩
theorem IRow.tail {W : World} {b M : Nat} {U : Nat → Int} (h : IRow W (some ⟨b, 0, none⟩) M U) : IRow W (some ⟨b, 1, none⟩) (M - 1) (fun j => U (j + 1)) := fun k hk => by
  obtain ⟨g, o, e, c0⟩ := h (k + 1) (by omega)
  cases e
  refine ⟨b, 1, rfl, ?_⟩
  rw [← c0]
  congr 2
  omega
theorem wpList_append_own {ops : Array Oper} {rest : List Oper} {o : Oper} {a : Act} {w : World} {Q : Exit → Act → World → Prop} (hgd : o.guard = none) (s x : Operand)
    (ho : o.op = .call { callee := .builtin .append, args := #[s, x], argTypes := #[27, 27] }) (base k gc : Nat) (go : Option Addr) (f : Nat → Int) (hs : a.eval s = .slice go k gc) (hown : OwnE w base go k gc f) (B : Nat) (hx : a.eval x = .slice (some ⟨B, 0, none⟩) 1 1)
    (hB : w.cell? ⟨B, 0, none⟩ = some (.int .i64 (f k))) (hk : k ≤ 100000000) (hbase : base ≤ w.heap.size)
    (h : ∀ g' gc' w', OwnE w' base (some ⟨g', 0, none⟩) (k + 1) gc' f → w.grownBy w' (Value.slice go k gc).ownBlock → ((Value.slice go k gc).ownBlock = some g' ∨ g' = w.heap.size) → wpList Tryz.prog ops Q rest (a.put o.dst (.slice (some ⟨g', 0, none⟩) (k + 1) gc')) w') : wpList Tryz.prog ops Q (o :: rest) a w :=
  wpList_plain hgd fun _ hK => wp_append_own s x ho base k gc go f hs hown B hx hB hk hbase fun g' gc' w' h1 h2 h3 => hK _ _ (h g' gc' w' h1 h2 h3)
theorem MX.rows (h : MX w base c ao n cap mb uo uc vo vc M U V W) : IRow W uo M U ∧ (∀ a, uo = some a → 0 < M → w.heap.size + 3 ≤ a.block) ∧ IRow W vo M V ∧ (∀ a, vo = some a → 0 < M → w.heap.size + 3 ≤ a.block) := by
  refine ⟨fun k hk => ?_, fun a e h0 => ?_, fun k hk => ?_, fun a e h0 => ?_⟩
  · obtain ⟨b, d, e1, e2, g1, g2, n1, n2, n3, i1, i2, i3, i4⟩ := h.own (by omega)
    rw [e1]
    exact i1.row k hk
  · obtain ⟨b, d, e1, e2, g1, g2, n1, n2, n3, i1, i2, i3, i4⟩ := h.own h0
    rw [e1] at e
    cases e
    exact g1
  · obtain ⟨b, d, e1, e2, g1, g2, n1, n2, n3, i1, i2, i3, i4⟩ := h.own (by omega)
    rw [e2]
    exact i2.row k hk
  · obtain ⟨b, d, e1, e2, g1, g2, n1, n2, n3, i1, i2, i3, i4⟩ := h.own h0
    rw [e2] at e
    cases e
    exact g2
end

def DrawnM (w : World) (base c : Nat) (ao : Option Addr) (n cap : Nat) (e : Ending) (w' : World) : Prop := ∃ (uo : Option Addr) (u uc : Nat) (U : Nat → Int) (vo : Option Addr) (v vc : Nat) (V : Nat → Int), e = .returned (.agg #[.slice uo u uc, .slice vo v vc]) ∧ (u ≤ 1001 ∧ v ≤ 1001) ∧ HM w base c ao n cap uo u U vo v V w'

set_option maxRecDepth 100000 in
set_option maxHeartbeats 8000000 in
theorem l5DrawMetric_any (base c : Nat) (ao : Option Addr) (n cap : Nat) (p : Int) (go : Option Addr) (k gc : Nat) (F T G : Nat → Int) (po : Option Addr) (m pc : Nat) (P : Nat → Int) (eo : Option Addr) (q ec : Nat) (L H : Nat → Int) (hk : k ≤ 200) (hm : m ≤ 24) (hq : q ≤ 217) (w : World) (hC : CurAt w base c ao n cap) (hr : Row w go k F T G) (hp : IRow w po m P) (he : ERow w eo q L H) :
    Calls Tryz.prog 45 #[.pointer (some ⟨c, 0, none⟩), .agg #[.int .i64 p, .slice go k gc], .agg #[.slice po m pc, .slice eo q ec]] w fun e w' => DrawnM w base c ao n cap e w' := by
  have hcl := hC.lt
  have hge := hC.ge
  have hD := b3_new w (.int .i64 p) (.slice go k gc) (.slice po m pc) (.slice eo q ec)
  obtain ⟨M, hM⟩ : ∃ M, lenM p k F T G m P q L H = M := ⟨_, rfl⟩
  obtain ⟨⟨CU, CD⟩, hD2⟩ : ∃ D, cusT p k F T G P = D := ⟨_, rfl⟩
  have hMq : M ≤ q := by
    rw [← hM]
    unfold lenM
    split <;> omega
  have HSP : Hid (∀ W, Row W go k F T G → IRow W po m P → ERow W eo q L H → Calls Tryz.prog 9 #[.agg #[.int .i64 p, .slice go k gc], .agg #[.slice po m pc, .slice eo q ec]] W fun e w' => MAnsO W w' e M CU CD) := fun W h1 h2 h3 => by
    have := specCustomize_own p go k gc F T G po m pc P eo q ec L H (by omega) (by omega) (by omega) W h1 h2 h3
    rw [hM, hD2] at this
    exact this
  clear hM hD2
  have q0 := hD.g0
  have q1 := hD.g1
  have q2 := hD.h0
  have q3 := hD.h1
  go_enter Tryz.func45, Tryz.ntmps45
  go_wp2_with fail
  have hz0 : (((w.alloc (.cells #[.int .i64 p, .slice go k gc] 26)).alloc (.cells #[.slice po m pc, .slice eo q ec] 30)).alloc (.cells #[.slice none 0 0, .slice none 0 0] 34)).heap.size = w.heap.size + 3 := by simp
  generalize (((w.alloc (.cells #[.int .i64 p, .slice go k gc] 26)).alloc (.cells #[.slice po m pc, .slice eo q ec] 30)).alloc (.cells #[.slice none 0 0, .slice none 0 0] 34)) = W0 at hD hz0 q0 q1 q2 q3 ⊢
  refine (HSP.out _ (hr.below hD.bel (Nat.le_refl _)) (hp.below hD.bel (Nat.le_refl _)) (he.below hD.bel (Nat.le_refl _))).mono ?_
  rintro e w1 ⟨uo, uc, vo, vc, rfl, hown, hsz, hb1⟩
  have hC0 := hC.next hD.bel
  have hB1 := below_next hD.bel (Nat.le_refl _) hb1
  have hW := mx_new (W0 := W0) (hC0.next hb1) ⟨hB1.os, hB1.tape, hB1.output, hB1.size, fun k hk _ => hB1.block k hk⟩ (hD.res.next hb1) (by omega) hb1.size hown
  clear hown hsz hb1 hC0 hB1 q0 q1 q2 q3 HSP hD
  go_wp2_with fail
  generalize (w1.alloc (.cells #[.slice uo M uc, .slice vo M vc] 34)) = W1 at hW ⊢
  generalize w1.heap.size = mb at hW ⊢
  refine (l1Once_any base c ao n cap 8 (by omega) (by omega) _ hW.cur).mono ?_
  rintro e w2 ⟨bx, rfl, hC2, hg2⟩
  replace hW := hW.step hcl hC2 hg2
  clear hC2 hg2
  have b0 : w2.cell? ⟨mb, 0, none⟩ = some (.slice uo M uc) := hW.box.cell (j := 0) (by omega)
  cases bx
  · have hR := hW.rows
    have r0 : w2.cell? ⟨w.heap.size + 2, 0, none⟩ = some (.slice none 0 0) := hW.res.cell (j := 0) (by omega)
    have r1 : w2.cell? ⟨w.heap.size + 2, 1, none⟩ = some (.slice none 0 0) := hW.res.cell (j := 1) (by omega)
    have f0 : w2.cell? ⟨mb, 0, none⟩ = some (.slice uo M uc) := hW.box.cell (j := 0) (by omega)
    have f1 : w2.cell? ⟨mb, 1, none⟩ = some (.slice vo M vc) := hW.box.cell (j := 1) (by omega)
    have z0 := hW.res.frozen 0
    have z1 := hW.res.frozen 1
    have hgm := hW.ge
    have hlr := hW.res.lt
    go_wp2
    have hO := hm_out hW.cur hcl hW.gr hR.1 hR.2.1 hR.2.2.1 hR.2.2.2 (.slice uo M uc) (.slice vo M vc)
    have d0 : ((w2.setCell ⟨w.heap.size + 2, 0, none⟩ (.slice uo M uc)).setCell ⟨w.heap.size + 2, 1, none⟩ (.slice vo M vc)).cell? ⟨w.heap.size + 2, 0, none⟩ = some (.slice uo M uc) := by simp [go_sem, r0, r1]
    have d1 : ((w2.setCell ⟨w.heap.size + 2, 0, none⟩ (.slice uo M uc)).setCell ⟨w.heap.size + 2, 1, none⟩ (.slice vo M vc)).cell? ⟨w.heap.size + 2, 1, none⟩ = some (.slice vo M vc) := by simp [go_sem, r0, r1]
    generalize ((w2.setCell ⟨w.heap.size + 2, 0, none⟩ (.slice uo M uc)).setCell ⟨w.heap.size + 2, 1, none⟩ (.slice vo M vc)) = WX at hO d0 d1 ⊢
    clear r0 r1 z0 z1
    simp [bodyPost, results, Tryz.results45, go_sem, d0, d1]
    exact ⟨uo, M, uc, CU, vo, M, vc, CD, rfl, by omega, hO⟩
  by_cases hM0 : 0 < M
  rotate_left
  · have hM0' : ¬ 0 < (M : Int) := by omega
    have hR := hW.rows
    have r0 : w2.cell? ⟨w.heap.size + 2, 0, none⟩ = some (.slice none 0 0) := hW.res.cell (j := 0) (by omega)
    have r1 : w2.cell? ⟨w.heap.size + 2, 1, none⟩ = some (.slice none 0 0) := hW.res.cell (j := 1) (by omega)
    have f0 : w2.cell? ⟨mb, 0, none⟩ = some (.slice uo M uc) := hW.box.cell (j := 0) (by omega)
    have f1 : w2.cell? ⟨mb, 1, none⟩ = some (.slice vo M vc) := hW.box.cell (j := 1) (by omega)
    have z0 := hW.res.frozen 0
    have z1 := hW.res.frozen 1
    have hgm := hW.ge
    have hlr := hW.res.lt
    go_wp2
    have hO := hm_out hW.cur hcl hW.gr hR.1 hR.2.1 hR.2.2.1 hR.2.2.2 (.slice uo M uc) (.slice vo M vc)
    have d0 : ((w2.setCell ⟨w.heap.size + 2, 0, none⟩ (.slice uo M uc)).setCell ⟨w.heap.size + 2, 1, none⟩ (.slice vo M vc)).cell? ⟨w.heap.size + 2, 0, none⟩ = some (.slice uo M uc) := by simp [go_sem, r0, r1]
    have d1 : ((w2.setCell ⟨w.heap.size + 2, 0, none⟩ (.slice uo M uc)).setCell ⟨w.heap.size + 2, 1, none⟩ (.slice vo M vc)).cell? ⟨w.heap.size + 2, 1, none⟩ = some (.slice vo M vc) := by simp [go_sem, r0, r1]
    generalize ((w2.setCell ⟨w.heap.size + 2, 0, none⟩ (.slice uo M uc)).setCell ⟨w.heap.size + 2, 1, none⟩ (.slice vo M vc)) = WX at hO d0 d1 ⊢
    clear r0 r1 z0 z1
    simp [bodyPost, results, Tryz.results45, go_sem, d0, d1]
    exact ⟨uo, M, uc, CU, vo, M, vc, CD, rfl, by omega, hO⟩
  have hM0' : 0 < (M : Int) := by omega
  go_wp2_with fail
  refine (l1Below_any base c ao n cap M (by omega) (by omega) _ hW.cur).mono ?_
  rintro e w3 ⟨x, rfl, hx, hC3, hg3⟩
  replace hW := hW.step hcl hC3 hg3
  clear hC3 hg3 b0
  go_wp2_with fail
  refine (l1Below_any base c ao n cap 4 (by omega) (by omega) _ hW.cur).mono ?_
  rintro e w4 ⟨z, rfl, hz, hC4, hg4⟩
  replace hW := hW.step hcl hC4 hg4
  clear hC4 hg4
  obtain ⟨b, d, rfl, rfl, g1, g2, n1, n2, n3, i1, i2, i3, i4⟩ := hW.own hM0
  have b0 : w4.cell? ⟨mb, 0, none⟩ = some (.slice (some ⟨b, 0, none⟩) M uc) := hW.box.cell (j := 0) (by omega)
  have b1 : w4.cell? ⟨mb, 1, none⟩ = some (.slice (some ⟨d, 0, none⟩) M vc) := hW.box.cell (j := 1) (by omega)
  have y0 := hW.box.frozen 0
  have y1 := hW.box.frozen 1
  have hmb := hW.ge
  have hxM : x < M := by omega
  have hlu := i1.lt
  have hld := i2.lt
  have hlm := hW.box.lt
  have hz4 : z = 0 ∨ z = 1 ∨ z = 2 ∨ z = 3 := by omega
  rcases hz4 with rfl | rfl | rfl | rfl
  · obtain ⟨wv, hwv⟩ : ∃ wv, IntKind.i64.wrap (CU x + 1) = wv := ⟨_, rfl⟩
    have u0 : w4.cell? ⟨b, x, none⟩ = some (.int .i64 (CU x)) := i1.cell hxM
    have hxM' : (x : Int) < (M : Int) := by omega
    have hWd := hW.next (Below.refl w4.heap.size w4).drew
    have hWa := (hW.next ((Below.refl w4.heap.size w4).alloc (Nat.le_refl _) (.cells #[.int .i64 (-1), .int .i64 0, .int .i64 1000000000000, .int .i64 1000000000001, .int .i64 wv, .int .i64 (-9223372036854775808)] 2))).next (Below.refl _ _).drew
    have hcw := hW.cur.lt
    clear hW
    go_wp2
    go_region_law (first
      | (go_simp; go_at_call 64; refine (l1Below_any base c ao n cap 6 (by omega) (by omega) _ hWa.cur).mono ?_; rintro e w7b ⟨y, rfl, hy, hC7, hg7⟩; have hW7 := hWa.step hcl hC7 hg7; obtain ⟨v, hv⟩ := lit6 ((hg7.block w4.heap.size (by simp) (by simp <;> omega)).trans (Go.Deep.blk_alloc_new w4 (.cells #[.int .i64 (-1), .int .i64 0, .int .i64 1000000000000, .int .i64 1000000000001, .int .i64 wv, .int .i64 (-9223372036854775808)] 2))) (show y < 6 by omega); have bz0 : w7b.cell? ⟨mb, 0, none⟩ = some (.slice (some ⟨b, 0, none⟩) M uc) := hW7.box.cell (j := 0) (by omega); have bz1 : w7b.cell? ⟨mb, 1, none⟩ = some (.slice (some ⟨d, 0, none⟩) M vc) := hW7.box.cell (j := 1) (by omega); obtain ⟨_, _, q1, q2, _, _, _, _, _, j1, j2, _, _⟩ := hW7.own hM0; cases q1; cases q2; have uz : w7b.cell? ⟨b, x, none⟩ = some (.int .i64 (CU x)) := j1.cell hxM; have zz := j1.frozen x; have lz1 := j1.lt; have lz2 := j2.lt; have lz3 := hW7.box.lt; have hy6 : (y : Int) < 6 := (by omega); clear hC7 hg7)
      | (go_simp; go_at_call 64; refine (l1Below_any base c ao n cap 6 (by omega) (by omega) _ hWd.cur).mono ?_; rintro e w7a ⟨y, rfl, hy, hC7, hg7⟩; have hW7 := hWd.step hcl hC7 hg7; obtain ⟨v, hv⟩ := lit6 (Go.Deep.blk_alloc_new w7a (.cells #[.int .i64 (-1), .int .i64 0, .int .i64 1000000000000, .int .i64 1000000000001, .int .i64 wv, .int .i64 (-9223372036854775808)] 2)) (show y < 6 by omega); have bz0 : w7a.cell? ⟨mb, 0, none⟩ = some (.slice (some ⟨b, 0, none⟩) M uc) := hW7.box.cell (j := 0) (by omega); have bz1 : w7a.cell? ⟨mb, 1, none⟩ = some (.slice (some ⟨d, 0, none⟩) M vc) := hW7.box.cell (j := 1) (by omega); obtain ⟨_, _, q1, q2, _, _, _, _, _, j1, j2, _, _⟩ := hW7.own hM0; cases q1; cases q2; have uz : w7a.cell? ⟨b, x, none⟩ = some (.int .i64 (CU x)) := j1.cell hxM; have zz := j1.frozen x; have lz1 := j1.lt; have lz2 := j2.lt; have lz3 := hW7.box.lt; have hy6 : (y : Int) < 6 := (by omega); clear hC7 hg7))
    all_goals
      have hW8 := hW7.setU hM0 hcl x v
      clear hWa hWd
      first
      | (generalize (w7b.setCell ⟨b, x, none⟩ (.int .i64 v)) = W8 at hW8 ⊢)
      | (replace hW8 := hW8.next ((Below.refl _ _).alloc (Nat.le_refl _) (.cells #[.int .i64 (-1), .int .i64 0, .int .i64 1000000000000, .int .i64 1000000000001, .int .i64 wv, .int .i64 (-9223372036854775808)] 2)); generalize ((w7a.setCell ⟨b, x, none⟩ (.int .i64 v)).alloc (.cells #[.int .i64 (-1), .int .i64 0, .int .i64 1000000000000, .int .i64 1000000000001, .int .i64 wv, .int .i64 (-9223372036854775808)] 2)) = W8 at hW8 ⊢)
      have hR := hW8.rows
      clear hW7 bz0 bz1 uz zz hv
      have r0 : W8.cell? ⟨w.heap.size + 2, 0, none⟩ = some (.slice none 0 0) := hW8.res.cell (j := 0) (by omega)
      have r1 : W8.cell? ⟨w.heap.size + 2, 1, none⟩ = some (.slice none 0 0) := hW8.res.cell (j := 1) (by omega)
      have f0 : W8.cell? ⟨mb, 0, none⟩ = some (.slice (some ⟨b, 0, none⟩) M uc) := hW8.box.cell (j := 0) (by omega)
      have f1 : W8.cell? ⟨mb, 1, none⟩ = some (.slice (some ⟨d, 0, none⟩) M vc) := hW8.box.cell (j := 1) (by omega)
      have z0 := hW8.res.frozen 0
      have z1 := hW8.res.frozen 1
      have hgm := hW8.ge
      have hlr := hW8.res.lt
      go_wp2
      have hO := hm_out hW8.cur hcl hW8.gr hR.1 hR.2.1 hR.2.2.1 hR.2.2.2 (.slice (some ⟨b, 0, none⟩) M uc) (.slice (some ⟨d, 0, none⟩) M vc)
      have d0 : ((W8.setCell ⟨w.heap.size + 2, 0, none⟩ (.slice (some ⟨b, 0, none⟩) M uc)).setCell ⟨w.heap.size + 2, 1, none⟩ (.slice (some ⟨d, 0, none⟩) M vc)).cell? ⟨w.heap.size + 2, 0, none⟩ = some (.slice (some ⟨b, 0, none⟩) M uc) := by simp [go_sem, r0, r1]
      have d1 : ((W8.setCell ⟨w.heap.size + 2, 0, none⟩ (.slice (some ⟨b, 0, none⟩) M uc)).setCell ⟨w.heap.size + 2, 1, none⟩ (.slice (some ⟨d, 0, none⟩) M vc)).cell? ⟨w.heap.size + 2, 1, none⟩ = some (.slice (some ⟨d, 0, none⟩) M vc) := by simp [go_sem, r0, r1]
      generalize ((W8.setCell ⟨w.heap.size + 2, 0, none⟩ (.slice (some ⟨b, 0, none⟩) M uc)).setCell ⟨w.heap.size + 2, 1, none⟩ (.slice (some ⟨d, 0, none⟩) M vc)) = WX at hO d0 d1 ⊢
      clear r0 r1 z0 z1
      simp [bodyPost, results, Tryz.results45, go_sem, d0, d1]
      exact ⟨(some ⟨b, 0, none⟩), M, uc, _, (some ⟨d, 0, none⟩), M, vc, CD, rfl, by omega, hO⟩
  · obtain ⟨wv, hwv⟩ : ∃ wv, IntKind.i64.wrap (CD x + 1) = wv := ⟨_, rfl⟩
    have u0 : w4.cell? ⟨d, x, none⟩ = some (.int .i64 (CD x)) := i2.cell hxM
    have hxM' : (x : Int) < (M : Int) := by omega
    have hWd := hW.next (Below.refl w4.heap.size w4).drew
    have hWa := (hW.next ((Below.refl w4.heap.size w4).alloc (Nat.le_refl _) (.cells #[.int .i64 (-1), .int .i64 0, .int .i64 1000000000000, .int .i64 1000000000001, .int .i64 wv, .int .i64 (4611686018427387904)] 2))).next (Below.refl _ _).drew
    have hcw := hW.cur.lt
    clear hW
    go_wp2
    go_region_law (first
      | (go_simp; go_at_call 64; refine (l1Below_any base c ao n cap 6 (by omega) (by omega) _ hWa.cur).mono ?_; rintro e w7b ⟨y, rfl, hy, hC7, hg7⟩; have hW7 := hWa.step hcl hC7 hg7; obtain ⟨v, hv⟩ := lit6 ((hg7.block w4.heap.size (by simp) (by simp <;> omega)).trans (Go.Deep.blk_alloc_new w4 (.cells #[.int .i64 (-1), .int .i64 0, .int .i64 1000000000000, .int .i64 1000000000001, .int .i64 wv, .int .i64 (4611686018427387904)] 2))) (show y < 6 by omega); have bz0 : w7b.cell? ⟨mb, 0, none⟩ = some (.slice (some ⟨b, 0, none⟩) M uc) := hW7.box.cell (j := 0) (by omega); have bz1 : w7b.cell? ⟨mb, 1, none⟩ = some (.slice (some ⟨d, 0, none⟩) M vc) := hW7.box.cell (j := 1) (by omega); obtain ⟨_, _, q1, q2, _, _, _, _, _, j1, j2, _, _⟩ := hW7.own hM0; cases q1; cases q2; have uz : w7b.cell? ⟨d, x, none⟩ = some (.int .i64 (CD x)) := j2.cell hxM; have zz := j2.frozen x; have lz1 := j1.lt; have lz2 := j2.lt; have lz3 := hW7.box.lt; have hy6 : (y : Int) < 6 := (by omega); clear hC7 hg7)
      | (go_simp; go_at_call 64; refine (l1Below_any base c ao n cap 6 (by omega) (by omega) _ hWd.cur).mono ?_; rintro e w7a ⟨y, rfl, hy, hC7, hg7⟩; have hW7 := hWd.step hcl hC7 hg7; obtain ⟨v, hv⟩ := lit6 (Go.Deep.blk_alloc_new w7a (.cells #[.int .i64 (-1), .int .i64 0, .int .i64 1000000000000, .int .i64 1000000000001, .int .i64 wv, .int .i64 (4611686018427387904)] 2)) (show y < 6 by omega); have bz0 : w7a.cell? ⟨mb, 0, none⟩ = some (.slice (some ⟨b, 0, none⟩) M uc) := hW7.box.cell (j := 0) (by omega); have bz1 : w7a.cell? ⟨mb, 1, none⟩ = some (.slice (some ⟨d, 0, none⟩) M vc) := hW7.box.cell (j := 1) (by omega); obtain ⟨_, _, q1, q2, _, _, _, _, _, j1, j2, _, _⟩ := hW7.own hM0; cases q1; cases q2; have uz : w7a.cell? ⟨d, x, none⟩ = some (.int .i64 (CD x)) := j2.cell hxM; have zz := j2.frozen x; have lz1 := j1.lt; have lz2 := j2.lt; have lz3 := hW7.box.lt; have hy6 : (y : Int) < 6 := (by omega); clear hC7 hg7))
    all_goals
      have hW8 := hW7.setD hM0 hcl x v
      clear hWa hWd
      first
      | (generalize (w7b.setCell ⟨d, x, none⟩ (.int .i64 v)) = W8 at hW8 ⊢)
      | (replace hW8 := hW8.next ((Below.refl _ _).alloc (Nat.le_refl _) (.cells #[.int .i64 (-1), .int .i64 0, .int .i64 1000000000000, .int .i64 1000000000001, .int .i64 wv, .int .i64 (4611686018427387904)] 2)); generalize ((w7a.setCell ⟨d, x, none⟩ (.int .i64 v)).alloc (.cells #[.int .i64 (-1), .int .i64 0, .int .i64 1000000000000, .int .i64 1000000000001, .int .i64 wv, .int .i64 (4611686018427387904)] 2)) = W8 at hW8 ⊢)
      have hR := hW8.rows
      clear hW7 bz0 bz1 uz zz hv
      have r0 : W8.cell? ⟨w.heap.size + 2, 0, none⟩ = some (.slice none 0 0) := hW8.res.cell (j := 0) (by omega)
      have r1 : W8.cell? ⟨w.heap.size + 2, 1, none⟩ = some (.slice none 0 0) := hW8.res.cell (j := 1) (by omega)
      have f0 : W8.cell? ⟨mb, 0, none⟩ = some (.slice (some ⟨b, 0, none⟩) M uc) := hW8.box.cell (j := 0) (by omega)
      have f1 : W8.cell? ⟨mb, 1, none⟩ = some (.slice (some ⟨d, 0, none⟩) M vc) := hW8.box.cell (j := 1) (by omega)
      have z0 := hW8.res.frozen 0
      have z1 := hW8.res.frozen 1
      have hgm := hW8.ge
      have hlr := hW8.res.lt
      go_wp2
      have hO := hm_out hW8.cur hcl hW8.gr hR.1 hR.2.1 hR.2.2.1 hR.2.2.2 (.slice (some ⟨b, 0, none⟩) M uc) (.slice (some ⟨d, 0, none⟩) M vc)
      have d0 : ((W8.setCell ⟨w.heap.size + 2, 0, none⟩ (.slice (some ⟨b, 0, none⟩) M uc)).setCell ⟨w.heap.size + 2, 1, none⟩ (.slice (some ⟨d, 0, none⟩) M vc)).cell? ⟨w.heap.size + 2, 0, none⟩ = some (.slice (some ⟨b, 0, none⟩) M uc) := by simp [go_sem, r0, r1]
      have d1 : ((W8.setCell ⟨w.heap.size + 2, 0, none⟩ (.slice (some ⟨b, 0, none⟩) M uc)).setCell ⟨w.heap.size + 2, 1, none⟩ (.slice (some ⟨d, 0, none⟩) M vc)).cell? ⟨w.heap.size + 2, 1, none⟩ = some (.slice (some ⟨d, 0, none⟩) M vc) := by simp [go_sem, r0, r1]
      generalize ((W8.setCell ⟨w.heap.size + 2, 0, none⟩ (.slice (some ⟨b, 0, none⟩) M uc)).setCell ⟨w.heap.size + 2, 1, none⟩ (.slice (some ⟨d, 0, none⟩) M vc)) = WX at hO d0 d1 ⊢
      clear r0 r1 z0 z1
      simp [bodyPost, results, Tryz.results45, go_sem, d0, d1]
      exact ⟨(some ⟨b, 0, none⟩), M, uc, CU, (some ⟨d, 0, none⟩), M, vc, _, rfl, by omega, hO⟩
  · by_cases huc : uc = 1
    · subst huc
      obtain rfl : M = 1 := by omega
      have h5 := gr_setCell w4 mb 0 (.slice (some ⟨b, 0, none⟩) 0 0)
      have cur5 := hW.cur.grown h5 (by omega) (by omega)
      have gr5 := gr_far hW.gr h5 (fun g e => by cases e; exact Nat.le_refl _) (by omega)
      have j1 := (i1.grown h5 (by simp; omega)).row
      have j2 := (i2.grown h5 (by simp; omega)).row
      have r0 : w4.cell? ⟨w.heap.size + 2, 0, none⟩ = some (.slice none 0 0) := hW.res.cell (j := 0) (by omega)
      have r1 : w4.cell? ⟨w.heap.size + 2, 1, none⟩ = some (.slice none 0 0) := hW.res.cell (j := 1) (by omega)
      have z0 := hW.res.frozen 0
      have z1 := hW.res.frozen 1
      have hlr := hW.res.lt
      go_wp2
      have hO := hm_out cur5 hcl gr5 (show IRow _ (some ⟨b, 0, none⟩) 0 CU from fun k hk => by omega) (fun a e h0 => by cases e; exact g1) j2 (fun a e h0 => by cases e; exact g2) (.slice (some ⟨b, 0, none⟩) 0 0) (.slice (some ⟨d, 0, none⟩) 1 vc)
      have d0 : (((w4.setCell ⟨mb, 0, none⟩ (.slice (some ⟨b, 0, none⟩) 0 0)).setCell ⟨w.heap.size + 2, 0, none⟩ (.slice (some ⟨b, 0, none⟩) 0 0)).setCell ⟨w.heap.size + 2, 1, none⟩ (.slice (some ⟨d, 0, none⟩) 1 vc)).cell? ⟨w.heap.size + 2, 0, none⟩ = some (.slice (some ⟨b, 0, none⟩) 0 0) := by simp [go_sem, r0, r1, b0, b1]
      have d1 : (((w4.setCell ⟨mb, 0, none⟩ (.slice (some ⟨b, 0, none⟩) 0 0)).setCell ⟨w.heap.size + 2, 0, none⟩ (.slice (some ⟨b, 0, none⟩) 0 0)).setCell ⟨w.heap.size + 2, 1, none⟩ (.slice (some ⟨d, 0, none⟩) 1 vc)).cell? ⟨w.heap.size + 2, 1, none⟩ = some (.slice (some ⟨d, 0, none⟩) 1 vc) := by simp [go_sem, r0, r1, b0, b1]
      generalize (((w4.setCell ⟨mb, 0, none⟩ (.slice (some ⟨b, 0, none⟩) 0 0)).setCell ⟨w.heap.size + 2, 0, none⟩ (.slice (some ⟨b, 0, none⟩) 0 0)).setCell ⟨w.heap.size + 2, 1, none⟩ (.slice (some ⟨d, 0, none⟩) 1 vc)) = WX at hO d0 d1 ⊢
      clear r0 r1 z0 z1
      simp [bodyPost, results, Tryz.results45, go_sem, d0, d1]
      exact ⟨(some ⟨b, 0, none⟩), 0, 0, _, (some ⟨d, 0, none⟩), 1, vc, CD, rfl, by omega, hO⟩
    have hx1 : (1 : Int) ≤ (uc : Int) := by omega
    have h5 := gr_setCell w4 mb 0 (.slice (some ⟨b, 1, none⟩) (M - 1) (uc - 1))
    have cur5 := hW.cur.grown h5 (by omega) (by omega)
    have gr5 := gr_far hW.gr h5 (fun g e => by cases e; exact Nat.le_refl _) (by omega)
    have j1 := (i1.grown h5 (by simp; omega)).row
    have j2 := (i2.grown h5 (by simp; omega)).row
    have r0 : w4.cell? ⟨w.heap.size + 2, 0, none⟩ = some (.slice none 0 0) := hW.res.cell (j := 0) (by omega)
    have r1 : w4.cell? ⟨w.heap.size + 2, 1, none⟩ = some (.slice none 0 0) := hW.res.cell (j := 1) (by omega)
    have z0 := hW.res.frozen 0
    have z1 := hW.res.frozen 1
    have hlr := hW.res.lt
    go_wp2
    have hO := hm_out cur5 hcl gr5 j1.tail (fun a e h0 => by cases e; exact g1) j2 (fun a e h0 => by cases e; exact g2) (.slice (some ⟨b, 1, none⟩) (M - 1) (uc - 1)) (.slice (some ⟨d, 0, none⟩) M vc)
    have d0 : (((w4.setCell ⟨mb, 0, none⟩ (.slice (some ⟨b, 1, none⟩) (M - 1) (uc - 1))).setCell ⟨w.heap.size + 2, 0, none⟩ (.slice (some ⟨b, 1, none⟩) (M - 1) (uc - 1))).setCell ⟨w.heap.size + 2, 1, none⟩ (.slice (some ⟨d, 0, none⟩) M vc)).cell? ⟨w.heap.size + 2, 0, none⟩ = some (.slice (some ⟨b, 1, none⟩) (M - 1) (uc - 1)) := by simp [go_sem, r0, r1, b0, b1]
    have d1 : (((w4.setCell ⟨mb, 0, none⟩ (.slice (some ⟨b, 1, none⟩) (M - 1) (uc - 1))).setCell ⟨w.heap.size + 2, 0, none⟩ (.slice (some ⟨b, 1, none⟩) (M - 1) (uc - 1))).setCell ⟨w.heap.size + 2, 1, none⟩ (.slice (some ⟨d, 0, none⟩) M vc)).cell? ⟨w.heap.size + 2, 1, none⟩ = some (.slice (some ⟨d, 0, none⟩) M vc) := by simp [go_sem, r0, r1, b0, b1]
    generalize (((w4.setCell ⟨mb, 0, none⟩ (.slice (some ⟨b, 1, none⟩) (M - 1) (uc - 1))).setCell ⟨w.heap.size + 2, 0, none⟩ (.slice (some ⟨b, 1, none⟩) (M - 1) (uc - 1))).setCell ⟨w.heap.size + 2, 1, none⟩ (.slice (some ⟨d, 0, none⟩) M vc)) = WX at hO d0 d1 ⊢
    clear r0 r1 z0 z1
    simp [bodyPost, results, Tryz.results45, go_sem, d0, d1]
    exact ⟨(some ⟨b, 1, none⟩), M - 1, uc - 1, _, (some ⟨d, 0, none⟩), M, vc, CD, rfl, by omega, hO⟩
  · have hf : ∀ j, j < M → CD j = (fun j => if j = M then (3 : Int) else CD j) j := fun j hj => by
      show _ = if j = M then (3 : Int) else CD j
      rw [if_neg (by omega)]
    have hW5 := hW.next ((Below.refl w4.heap.size w4).alloc (Nat.le_refl _) (.cells #[.int .i64 3] 2))
    have hown := (i3.own (i2.congr hf) g2).next ((Below.refl w4.heap.size w4).alloc (Nat.le_refl _) (.cells #[.int .i64 3] 2))
    have i15 := i1.below ((Below.refl w4.heap.size w4).alloc (Nat.le_refl _) (.cells #[.int .i64 3] 2)) i1.lt
    have hz5 : (w4.alloc (.cells #[.int .i64 3] 2)).heap.size = w4.heap.size + 1 := by simp
    clear hW
    go_wp2_with (at_builtin; refine wpList_append_own rfl _ _ rfl (w.heap.size + 3) M vc (some ⟨d, 0, none⟩) (fun j => if j = M then (3 : Int) else CD j) rfl hown w4.heap.size rfl (by simp [go_sem]) (by omega) (by simp; omega) ?_; intro g6 gc6 w6 hown6 hgrow6 hat6; have hbx6 := hW5.box.grown hgrow6 (by simp [Value.ownBlock]; omega); have b6 : w6.cell? ⟨mb, 1, none⟩ = some (.slice (some ⟨d, 0, none⟩) M vc) := hbx6.cell (j := 1) (by omega); have b60 : w6.cell? ⟨mb, 0, none⟩ = some (.slice (some ⟨b, 0, none⟩) M uc) := hbx6.cell (j := 0) (by omega); have y61 := hbx6.frozen 1; have hrs6 := hW5.res.grown hgrow6 (by simp [Value.ownBlock]; omega); have r0 : w6.cell? ⟨w.heap.size + 2, 0, none⟩ = some (.slice none 0 0) := hrs6.cell (j := 0) (by omega); have r1 : w6.cell? ⟨w.heap.size + 2, 1, none⟩ = some (.slice none 0 0) := hrs6.cell (j := 1) (by omega); have z0 := hrs6.frozen 0; have z1 := hrs6.frozen 1; have hl6 := hbx6.lt; have hlr6 := hrs6.lt)
    have hg6 : (w4.alloc (.cells #[.int .i64 3] 2)).grownBy w6 (some d) := hgrow6
    have h7 := gr_setCell w6 mb 1 (.slice (some ⟨g6, 0, none⟩) (M + 1) gc6)
    have hng : g6 ≠ mb := by
      rcases hat6 with e | e
      · cases e; exact n3
      · rw [hz5] at e; omega
    obtain ⟨g6', e6, hb6, hi6⟩ := hown6.has (by omega)
    cases e6
    have cur7 := (hW5.cur.grown hg6 (by omega) (by omega)).grown h7 (by omega) (by omega)
    have gr7 := gr_far (gr_far hW5.gr hg6 (fun g e => by cases e; exact Nat.le_refl _) (by omega)) h7 (fun g e => by cases e; exact Nat.le_refl _) (by omega)
    have j1 := ((i15.grown hg6 (by simp; omega)).grown h7 (by simp; omega)).row
    have j2 := (hi6.grown h7 (by simp; omega)).row
    have hO := hm_out cur7 hcl gr7 j1 (fun a e h0 => by cases e; exact g1) j2 (fun a e h0 => by cases e; exact hb6) (.slice (some ⟨b, 0, none⟩) M uc) (.slice (some ⟨g6, 0, none⟩) (M + 1) gc6)
    have d0 : (((w6.setCell ⟨mb, 1, none⟩ (.slice (some ⟨g6, 0, none⟩) (M + 1) gc6)).setCell ⟨w.heap.size + 2, 0, none⟩ (.slice (some ⟨b, 0, none⟩) M uc)).setCell ⟨w.heap.size + 2, 1, none⟩ (.slice (some ⟨g6, 0, none⟩) (M + 1) gc6)).cell? ⟨w.heap.size + 2, 0, none⟩ = some (.slice (some ⟨b, 0, none⟩) M uc) := by simp [go_sem, r0, r1, b6, b60]
    have d1 : (((w6.setCell ⟨mb, 1, none⟩ (.slice (some ⟨g6, 0, none⟩) (M + 1) gc6)).setCell ⟨w.heap.size + 2, 0, none⟩ (.slice (some ⟨b, 0, none⟩) M uc)).setCell ⟨w.heap.size + 2, 1, none⟩ (.slice (some ⟨g6, 0, none⟩) (M + 1) gc6)).cell? ⟨w.heap.size + 2, 1, none⟩ = some (.slice (some ⟨g6, 0, none⟩) (M + 1) gc6) := by simp [go_sem, r0, r1, b6, b60]
    generalize (((w6.setCell ⟨mb, 1, none⟩ (.slice (some ⟨g6, 0, none⟩) (M + 1) gc6)).setCell ⟨w.heap.size + 2, 0, none⟩ (.slice (some ⟨b, 0, none⟩) M uc)).setCell ⟨w.heap.size + 2, 1, none⟩ (.slice (some ⟨g6, 0, none⟩) (M + 1) gc6)) = WX at hO d0 d1 ⊢
    clear r0 r1 z0 z1
    simp [bodyPost, results, Tryz.results45, go_sem, d0, d1]
    exact ⟨(some ⟨b, 0, none⟩), M, uc, CU, (some ⟨g6, 0, none⟩), M + 1, gc6, _, rfl, by omega, hO⟩

end Go.Proofs.YtokaechbmnbbiabGreat
