/-
  The document's draw of a map and its hierarchy, right or not.
-/
import Derived.Test.YteibbknpcgcjjabGreatDrawH5P
set_option linter.unusedVariables false
set_option linter.unusedSimpArgs false
namespace Go.Proofs.YteibbknpcgcjjabGreat
open Go.RowKit Go.Maps Go.Deep Go.Joins
attribute [local go_sem ↓] Go.wp_at_zero Go.wp_at_succ

theorem l1FromN_any (base c : Nat) (ao : Option Addr) (n cap : Nat) (lo hi : Int) (h0 : -100 ≤ lo) (h1 : lo ≤ hi) (h2 : hi ≤ 100) (w : World) (hC : CurAt w base c ao n cap) :
    Calls Tryz.prog 103 #[.pointer (some ⟨c, 0, none⟩), .int .i64 lo, .int .i64 hi] w fun e w' => ∃ x : Int, e = .returned (.int .i64 x) ∧ (Lit.int .i64 x).wf = true ∧ CurAt w' base c ao n cap ∧ w.grownBy w' (some c) := by
  have e1 : IntKind.i64.wrap (hi - lo) = hi - lo := by rw [IntKind.wrap_i64]; omega
  have e2 : IntKind.i64.wrap (hi - lo + 1) = hi - lo + 1 := by rw [IntKind.wrap_i64]; omega
  go_enter Tryz.func103, Tryz.ntmps103
  go_wp2_with (go_at_call 64; refine (l1Below_any base c ao n cap _ (by omega) (by omega) _ hC).mono ?_; rintro e w1 ⟨x, rfl, hx, hC1, hg1⟩)
  go_ret
  refine ⟨_, rfl, ?_, hC1, hg1⟩
  first | exact lit_wf (by omega) (by omega) | (rw [IntKind.wrap_i64]; exact lit_wf (by omega) (by omega))
theorem wp_append_edgeE {w : World} {o : Oper} {a : Act} {K : Act → World → Prop} {Q : Exit → Act → World → Prop} (s x : Operand)
    (ho : o.op = .call { callee := .builtin .append, args := #[s, x], argTypes := #[28, 28] }) (base ec : Nat) (eo : Option Addr) (l : List (Int × Int)) (hs : a.eval s = .slice eo l.length ec)
    (hown : EOwnE w base eo ec l) (B c : Nat) (v u : Int) (hx : a.eval x = .slice (some ⟨B, 0, none⟩) 1 c) (h0 : w.cell? ⟨B, 0, none⟩ = some (.int .i64 v)) (h1 : w.cell? ⟨B, 1, none⟩ = some (.int .i64 u)) (hn : l.length ≤ 1000000) (hbase : base ≤ w.heap.size)
    (h : ∀ g' cap' w', EOwn w' base g' cap' (l ++ [(v, u)]) → w.grownBy w' (Value.slice eo l.length ec).ownBlock → ((Value.slice eo l.length ec).ownBlock = some g' ∨ g' = w.heap.size) → K (a.put o.dst (.slice (some ⟨g', 0, none⟩) (l.length + 1) cap')) w') : o.wp Tryz.prog a w K Q := by
  obtain ⟨i, hi, hz0, hz1, hz2⟩ := info_parts Tryz.infoEdge
  refine wp_append_lies w s x 28 ho base 62 i _ 2 16 Tryz.underlying28 hi hz0 hz1 hz2 rfl (by omega) _ l.length (ecells l) hs hown.1 ⟨B, 0, none⟩ 1 c [.int .i64 v, .int .i64 u] hx rfl (news_edge h0 h1) ?_ (by omega) (by unfold maxLen; omega) (by omega) hbase w.heap.size rfl ?_
  · intro u hu
    simp at hu
    rcases hu with rfl | rfl <;> rfl
  · intro g' cap' w' hown' hgrow hat hlt
    refine h g' cap' w' ?_ hgrow hat
    rw [ecells_snoc] at hown'
    unfold EOwn
    rw [List.length_append]
    exact hown'
theorem step_append_edgeE {w : World} {ops : Array Oper} {o : Oper} {a : Act} {K : Act → World → Prop} {Q : Exit → Act → World → Prop} {E : Prop} (hgd : o.guard = none) (s x : Operand)
    (ho : o.op = .call { callee := .builtin .append, args := #[s, x], argTypes := #[28, 28] }) (base ec : Nat) (eo : Option Addr) (l : List (Int × Int)) (hs : a.eval s = .slice eo l.length ec)
    (hown : EOwnE w base eo ec l) (B c : Nat) (v u : Int) (hx : a.eval x = .slice (some ⟨B, 0, none⟩) 1 c) (h0 : w.cell? ⟨B, 0, none⟩ = some (.int .i64 v)) (h1 : w.cell? ⟨B, 1, none⟩ = some (.int .i64 u)) (hn : l.length ≤ 1000000) (hbase : base ≤ w.heap.size)
    (h : ∀ g' cap' w', EOwn w' base g' cap' (l ++ [(v, u)]) → w.grownBy w' (Value.slice eo l.length ec).ownBlock → ((Value.slice eo l.length ec).ownBlock = some g' ∨ g' = w.heap.size) → K (a.put o.dst (.slice (some ⟨g', 0, none⟩) (l.length + 1) cap')) w') :
    if Region.wanted o (yielded ops a.tmps) = true then Oper.wp Tryz.prog o a w K Q else E := by
  have hw : Region.wanted o (yielded ops a.tmps) = true := by simp [Region.wanted, hgd]
  rw [if_pos hw]
  exact wp_append_edgeE s x ho base ec eo l hs hown B c v u hx h0 h1 hn hbase h
/-- As HW, but for what the second box holds. -/
structure HV (w : World) (base c : Nat) (ao : Option Addr) (n cap : Nat) (gb hb : Nat) (go : Option Addr) (k gc : Nat) (po : Option Addr) (m : Nat) (P : Nat → Int) (eo : Option Addr) (ec : Nat) (l : List (Int × Int)) (W : World) : Prop where
  cur : CurAt W base c ao n cap
  gr : w.grownBy W (some c)
  rg : VHas W w.heap.size 26 2 (grV 0 (.slice none 0 0))
  rh : VHas W (w.heap.size + 1) 30 2 (me2 (.slice none 0 0) (.slice none 0 0))
  arcs : AOwnE W (w.heap.size + 2) go k gc
  ord : IRow W po m P
  ordb : ∀ a, po = some a → 0 < m → w.heap.size + 2 ≤ a.block ∧ a.block ≠ gb ∧ a.block ≠ hb
  edg : EOwnE W (w.heap.size + 2) eo ec l
  ne : w.heap.size + 2 ≤ gb ∧ w.heap.size + 2 ≤ hb ∧ gb ≠ hb
  sep : ∀ a x, po = some a → 0 < m → (Value.slice eo l.length ec).ownBlock = some x → a.block ≠ x
/-- A map and a hierarchy that are drawn, in new memory: rows alone. -/
structure HR (w : World) (base c : Nat) (ao : Option Addr) (n cap : Nat) (go : Option Addr) (k gc : Nat) (po : Option Addr) (m : Nat) (P : Nat → Int) (eo : Option Addr) (q : Nat) (L H : Nat → Int) (W : World) : Prop where
  cur : CurAt W base c ao n cap
  gr : w.grownBy W (some c)
  arcs : AOwnE W w.heap.size go k gc
  ord : IRow W po m P
  ordb : ∀ a, po = some a → 0 < m → w.heap.size ≤ a.block
  edg : ERow W eo q L H
  edgb : ∀ a, eo = some a → 0 < q → w.heap.size ≤ a.block
  ewf : ∀ j, j < q → (Lit.int .i64 (L j)).wf = true ∧ (Lit.int .i64 (H j)).wf = true
section
variable {w W W' : World} {base c : Nat} {ao : Option Addr} {n cap gb hb : Nat} {p : Int} {go : Option Addr} {k gc : Nat} {po : Option Addr} {m pc : Nat} {P : Nat → Int} {eo : Option Addr} {ec : Nat} {l : List (Int × Int)}
theorem HW.hv (h : HW w base c ao n cap gb hb p go k gc po m pc P eo ec l W) : HV w base c ao n cap gb hb go k gc po m P eo ec l W := ⟨h.cur, h.gr, h.rg, h.rh, h.arcs, h.ord, h.ordb, h.edg, h.ne, h.sep⟩
theorem HV.out (h : HV w base c ao n cap gb hb go k gc po m P eo ec l W) (hc : c < w.heap.size) (v0 v1 v2 v3 : Value) :
    HD w base c ao n cap go k gc po m P eo ec l ((((W.setCell ⟨w.heap.size, 0, none⟩ v0).setCell ⟨w.heap.size, 1, none⟩ v1).setCell ⟨w.heap.size + 1, 0, none⟩ v2).setCell ⟨w.heap.size + 1, 1, none⟩ v3) := by
  have h1 := gr_setCell W w.heap.size 0 v0
  have h2 := gr_setCell (W.setCell ⟨w.heap.size, 0, none⟩ v0) w.heap.size 1 v1
  have h3 := gr_setCell ((W.setCell ⟨w.heap.size, 0, none⟩ v0).setCell ⟨w.heap.size, 1, none⟩ v1) (w.heap.size + 1) 0 v2
  have h4 := gr_setCell (((W.setCell ⟨w.heap.size, 0, none⟩ v0).setCell ⟨w.heap.size, 1, none⟩ v1).setCell ⟨w.heap.size + 1, 0, none⟩ v2) (w.heap.size + 1) 1 v3
  generalize (((W.setCell ⟨w.heap.size, 0, none⟩ v0).setCell ⟨w.heap.size, 1, none⟩ v1).setCell ⟨w.heap.size + 1, 0, none⟩ v2) = W3 at h3 h4 ⊢
  generalize ((W.setCell ⟨w.heap.size, 0, none⟩ v0).setCell ⟨w.heap.size, 1, none⟩ v1) = W2 at h2 h3
  generalize (W.setCell ⟨w.heap.size, 0, none⟩ v0) = W1 at h1 h2
  have hge := h.cur.ge
  refine ⟨(((h.cur.grown h1 (by omega) (by omega)).grown h2 (by omega) (by omega)).grown h3 (by omega) (by omega)).grown h4 (by omega) (by omega), ?_, ((((h.arcs.grown h1 (by omega)).grown h2 (by omega)).grown h3 (by omega)).grown h4 (by omega)).from (by omega), ?_, fun a e h0 => by have := h.ordb a e h0; omega, ?_, h.sep⟩
  · exact gr_far (gr_far (gr_far (gr_far h.gr h1 (fun g e => by cases e; exact Nat.le_refl _) (Nat.le_refl _)) h2 (fun g e => by cases e; exact Nat.le_refl _) (Nat.le_refl _)) h3 (fun g e => by cases e; exact Nat.le_refl _) (by omega)) h4 (fun g e => by cases e; exact Nat.le_refl _) (by omega)
  · exact (((h.ord.otherE h1 (fun a e h0 => by have := h.ordb a e h0; omega)).otherE h2 (fun a e h0 => by have := h.ordb a e h0; omega)).otherE h3 (fun a e h0 => by have := h.ordb a e h0; omega)).otherE h4 (fun a e h0 => by have := h.ordb a e h0; omega)
  · have hx : ∀ x, (Value.slice eo l.length ec).ownBlock = some x → w.heap.size + 2 ≤ x := fun x e => (h.edg.at e).1
    exact ((((h.edg.grown h1 (fun x e q => by have := hx x e; cases q; omega)).grown h2 (fun x e q => by have := hx x e; cases q; omega)).grown h3 (fun x e q => by have := hx x e; cases q; omega)).grown h4 (fun x e q => by have := hx x e; cases q; omega)).from (by omega)
theorem HD.hr (h : HD w base c ao n cap go k gc po m P eo ec l W) : HR w base c ao n cap go k gc po m P eo l.length (Lf l) (Hf l) W :=
  ⟨h.cur, h.gr, h.arcs, h.ord, h.ordb, h.edg.row, fun a e h0 => by
    obtain ⟨g, e2, h2⟩ := h.edg.some h0
    rw [e2] at e
    cases e
    exact h2.base, h.edg.2.at⟩
theorem HR.next {q : Nat} {L H : Nat → Int} (h : HR w base c ao n cap go k gc po m P eo q L H W) (hb' : Below W.heap.size W W') : HR w base c ao n cap go k gc po m P eo q L H W' :=
  ⟨h.cur.next hb', h.gr.trans ⟨hb'.os, hb'.tape, hb'.output, hb'.size, fun k hk _ => hb'.block k hk⟩, h.arcs.next hb', h.ord.below hb' (Nat.le_refl _), h.ordb, h.edg.below hb' (Nat.le_refl _), h.edgb, h.ewf⟩
theorem HD.cut2 (h : HD w base c ao n cap go k gc po m P eo ec l W) {eo' : Option Addr} {q : Nat} {L H : Nat → Int} (hE : ERow W eo' q L H) (hb' : ∀ a, eo' = some a → 0 < q → w.heap.size ≤ a.block) (hw' : ∀ j, j < q → (Lit.int .i64 (L j)).wf = true ∧ (Lit.int .i64 (H j)).wf = true) : HR w base c ao n cap go k gc po m P eo' q L H W.drew :=
  (HR.mk h.cur h.gr h.arcs h.ord h.ordb hE hb' hw').next (Below.refl _ _).drew
/-- The first edge is cut off. -/
theorem ERow.tail {W : World} {g q : Nat} {L H : Nat → Int} (h : ERow W (some ⟨g, 0, none⟩) q L H) : ERow W (some ⟨g, 2, none⟩) (q - 1) (fun j => L (j + 1)) (fun j => H (j + 1)) := fun k hk => by
  obtain ⟨b, o, e, c0, c1⟩ := h (k + 1) (by omega)
  cases e
  refine ⟨g, 2, rfl, ?_, ?_⟩
  · rw [← c0]; congr 2; omega
  · rw [← c1]; congr 2; omega
theorem HW.setG (h : HW w base c ao n cap gb hb p go k gc po m pc P eo ec l W) (hc : c < w.heap.size) {p' : Int} {go' : Option Addr} {k' gc' : Nat} (hA : AOwnE W (w.heap.size + 2) go' k' gc') :
    HW w base c ao n cap gb hb p' go' k' gc' po m pc P eo ec l ((W.setCell ⟨gb, 0, none⟩ (.int .i64 p')).setCell ⟨gb, 1, none⟩ (.slice go' k' gc')) := by
  have h1 := gr_setCell W gb 0 (.int .i64 p')
  have h2 := gr_setCell (W.setCell ⟨gb, 0, none⟩ (.int .i64 p')) gb 1 (.slice go' k' gc')
  have gbx := ((h.gbx.set 0 (.int .i64 p')).set 1 (.slice go' k' gc')).congr (g := grV p' (.slice go' k' gc')) (fun i hi => by
    have : i = 0 ∨ i = 1 := by omega
    rcases this with rfl | rfl <;> rfl)
  have hne := h.ne
  have hge := h.cur.ge
  have na : ∀ y, (Value.slice go' k' gc').ownBlock = some y → y ≠ gb := fun y e q => by
    subst q
    obtain ⟨cur, q1, _⟩ := h.gbx
    obtain ⟨g, _, _, h0 | ⟨g', cap', cur', hv, hb, hh, rest⟩⟩ := hA
    · rw [h0.1] at e; cases e
    · rw [hv] at e
      cases e
      rw [q1] at hh
      simp at hh
  have nE : ∀ y, (Value.slice eo l.length ec).ownBlock = some y → some gb ≠ some y := fun y e q => vhas_edge (by decide) h.gbx h.edg e (by simpa using q.symm)
  generalize ((W.setCell ⟨gb, 0, none⟩ (.int .i64 p')).setCell ⟨gb, 1, none⟩ (.slice go' k' gc')) = W2 at h2 gbx ⊢
  generalize (W.setCell ⟨gb, 0, none⟩ (.int .i64 p')) = W1 at h1 h2
  exact ⟨(h.cur.grown h1 (by omega) (by omega)).grown h2 (by omega) (by omega), gr_far (gr_far h.gr h1 (fun g e => by cases e; exact Nat.le_refl _) (by omega)) h2 (fun g e => by cases e; exact Nat.le_refl _) (by omega), (h.rg.grown h1 (by simp; omega)).grown h2 (by simp; omega), (h.rh.grown h1 (by simp; omega)).grown h2 (by simp; omega), gbx, (h.hbx.grown h1 (by simp; omega)).grown h2 (by simp; omega), (hA.grownN h1 na).grownN h2 na, (h.ord.otherE h1 (fun a e h0 => (h.ordb a e h0).2.1)).otherE h2 (fun a e h0 => (h.ordb a e h0).2.1), h.ordb, (h.edg.grown h1 nE).grown h2 nE, h.ne, h.sep⟩
theorem HW.setO (h : HW w base c ao n cap gb hb p go k gc po m pc P eo ec l W) (hc : c < w.heap.size) {po' : Option Addr} {m' pc' : Nat} {P' : Nat → Int} (hP : IRow W po' m' P') (hpb : ∀ a, po' = some a → 0 < m' → w.heap.size + 2 ≤ a.block ∧ a.block ≠ gb ∧ a.block ≠ hb) (hsep : ∀ a x, po' = some a → 0 < m' → (Value.slice eo l.length ec).ownBlock = some x → a.block ≠ x) :
    HW w base c ao n cap gb hb p go k gc po' m' pc' P' eo ec l (W.setCell ⟨hb, 0, none⟩ (.slice po' m' pc')) := by
  have h1 := gr_setCell W hb 0 (.slice po' m' pc')
  have hbx := (h.hbx.set 0 (.slice po' m' pc')).congr (g := me2 (.slice po' m' pc') (.slice eo l.length ec)) (fun i hi => by
    have : i = 0 ∨ i = 1 := by omega
    rcases this with rfl | rfl <;> rfl)
  have hne := h.ne
  have hge := h.cur.ge
  have na : ∀ y, (Value.slice go k gc).ownBlock = some y → y ≠ hb := fun y e => vhas_arc h.hbx h.arcs e
  have nE : ∀ y, (Value.slice eo l.length ec).ownBlock = some y → some hb ≠ some y := fun y e q => vhas_edge (by decide) h.hbx h.edg e (by simpa using q.symm)
  generalize (W.setCell ⟨hb, 0, none⟩ (.slice po' m' pc')) = W1 at h1 hbx ⊢
  exact ⟨h.cur.grown h1 (by omega) (by omega), gr_far h.gr h1 (fun g e => by cases e; exact Nat.le_refl _) (by omega), h.rg.grown h1 (by simp; omega), h.rh.grown h1 (by simp; omega), h.gbx.grown h1 (by simp; omega), hbx, h.arcs.grownN h1 na, hP.otherE h1 (fun a e h0 => (hpb a e h0).2.2), hpb, h.edg.grown h1 nE, h.ne, hsep⟩
theorem HW.cutE (h : HW w base c ao n cap gb hb p go k gc po m pc P eo ec l W) (hc : c < w.heap.size) (v : Value) : HV w base c ao n cap gb hb go k gc po m P eo ec l (W.setCell ⟨hb, 1, none⟩ v) ∧ VHas (W.setCell ⟨hb, 1, none⟩ v) gb 26 2 (grV p (.slice go k gc)) ∧ VHas (W.setCell ⟨hb, 1, none⟩ v) hb 30 2 (me2 (.slice po m pc) v) := by
  have h1 := gr_setCell W hb 1 v
  have hbx := (h.hbx.set 1 v).congr (g := me2 (.slice po m pc) v) (fun i hi => by
    have : i = 0 ∨ i = 1 := by omega
    rcases this with rfl | rfl <;> rfl)
  have hne := h.ne
  have hge := h.cur.ge
  have na : ∀ y, (Value.slice go k gc).ownBlock = some y → y ≠ hb := fun y e => vhas_arc h.hbx h.arcs e
  have nE : ∀ y, (Value.slice eo l.length ec).ownBlock = some y → some hb ≠ some y := fun y e q => vhas_edge (by decide) h.hbx h.edg e (by simpa using q.symm)
  generalize (W.setCell ⟨hb, 1, none⟩ v) = W1 at h1 hbx ⊢
  exact ⟨⟨h.cur.grown h1 (by omega) (by omega), gr_far h.gr h1 (fun g e => by cases e; exact Nat.le_refl _) (by omega), h.rg.grown h1 (by simp; omega), h.rh.grown h1 (by simp; omega), h.arcs.grownN h1 na, h.ord.otherE h1 (fun a e h0 => (h.ordb a e h0).2.2), h.ordb, h.edg.grown h1 nE, h.ne, h.sep⟩, h.gbx.grown h1 (by simp; omega), hbx⟩
theorem HW.appBox (h : HW w base c ao n cap gb hb p go k gc po m pc P eo ec l W) (hg : W.grownBy W' (Value.slice eo l.length ec).ownBlock) : VHas W' hb 30 2 (me2 (.slice po m pc) (.slice eo l.length ec)) :=
  h.hbx.grown hg (fun e => vhas_edge (by decide) h.hbx h.edg e.symm rfl)
/-- Edges put to, whichever block they lie in then. -/
theorem HW.appE (h : HW w base c ao n cap gb hb p go k gc po m pc P eo ec l W) (hc : c < w.heap.size) (hg : W.grownBy W' (Value.slice eo l.length ec).ownBlock) {g' ec' : Nat} {l' : List (Int × Int)} (hE : EOwn W' (w.heap.size + 2) g' ec' l') (hwl : LWf l') (hat : (Value.slice eo l.length ec).ownBlock = some g' ∨ g' = W.heap.size) :
    HW w base c ao n cap gb hb p go k gc po m pc P (some ⟨g', 0, none⟩) ec' l' (W'.setCell ⟨hb, 1, none⟩ (.slice (some ⟨g', 0, none⟩) l'.length ec')) := by
  have hr : ∀ x, (Value.slice eo l.length ec).ownBlock = some x → w.heap.size + 2 ≤ x := fun x e => (h.edg.at e).1
  have hne := h.ne
  have hge := h.cur.ge
  have n1 : some gb ≠ (Value.slice eo l.length ec).ownBlock := fun e => vhas_edge (by decide) h.gbx h.edg e.symm rfl
  have n2 : some hb ≠ (Value.slice eo l.length ec).ownBlock := fun e => vhas_edge (by decide) h.hbx h.edg e.symm rfl
  have na0 : ∀ y, (Value.slice go k gc).ownBlock = some y → some y ≠ (Value.slice eo l.length ec).ownBlock := fun y e q => by
    obtain ⟨f, _, _, h0 | ⟨g1, cap1, cur1, hv, hb1, hh, rest⟩⟩ := h.arcs
    · rw [h0.1] at e; cases e
    · rw [hv] at e
      cases e
      obtain ⟨⟨_, h0 | ⟨g2, cap2, cur2, hv2, hb2, hh2, rest2⟩⟩, _⟩ := h.edg
      · rw [h0.1] at q; cases q
      · rw [hv2] at q
        cases q
        rw [hh] at hh2
        simp at hh2
  have hx : IRow W' po m P := h.ord.other hg (fun a e h0 q => h.sep a a.block e h0 q.symm rfl)
  have hgbx := h.gbx.grown hg n1
  have hhbx := h.hbx.grown hg n2
  have hA : AOwnE W' (w.heap.size + 2) go k gc := h.arcs.of_block (fun y e => hg.block y (h.arcs.at e).2 (na0 y e))
  have h1 := gr_setCell W' hb 1 (.slice (some ⟨g', 0, none⟩) l'.length ec')
  have hbx := (hhbx.set 1 (.slice (some ⟨g', 0, none⟩) l'.length ec')).congr (g := me2 (.slice po m pc) (.slice (some ⟨g', 0, none⟩) l'.length ec')) (fun i hi => by
    have : i = 0 ∨ i = 1 := by omega
    rcases this with rfl | rfl <;> rfl)
  have na : ∀ y, (Value.slice go k gc).ownBlock = some y → y ≠ hb := fun y e => vhas_arc hhbx hA e
  have hE' : EOwnE W' (w.heap.size + 2) (some ⟨g', 0, none⟩) ec' l' := ⟨hE, hwl⟩
  have nE : ∀ y, (Value.slice (some (⟨g', 0, none⟩ : Addr)) l'.length ec').ownBlock = some y → some hb ≠ some y := fun y e q => vhas_edge (by decide) hhbx hE' e (by simpa using q.symm)
  have hC := CurAt.far h.cur hg hr (by omega)
  have hgr := gr_far h.gr hg hr (by omega)
  have hrg := h.rg.grown hg (fun e => by have := hr _ e.symm; omega)
  have hrh := h.rh.grown hg (fun e => by have := hr _ e.symm; omega)
  generalize (W'.setCell ⟨hb, 1, none⟩ (.slice (some ⟨g', 0, none⟩) l'.length ec')) = W1 at h1 hbx ⊢
  exact ⟨hC.grown h1 (by omega) (by omega), gr_far hgr h1 (fun g e => by cases e; exact Nat.le_refl _) (by omega), hrg.grown h1 (by simp; omega), hrh.grown h1 (by simp; omega), hgbx.grown h1 (by simp; omega), hbx, hA.grownN h1 na, hx.otherE h1 (fun a e h0 => (h.ordb a e h0).2.2), h.ordb, hE'.grown h1 nE, h.ne, fun a x e h0 q => by
    cases q
    rcases hat with q | q
    · exact h.sep a _ e h0 q
    · obtain ⟨b9, o9, e9, c9⟩ := h.ord 0 h0
      rw [e] at e9
      cases e9
      have h1 := lt_of_cell c9
      simp only
      omega⟩
end

end Go.Proofs.YteibbknpcgcjjabGreat
