/-
  Recustomize, the document's and the program's.
-/
import Derived.Test.YteibbknpcgcjjabGreatPack11
import Derived.Test.YteibbknpcgcjjabGreatRecLP
import Derived.Test.YteibbknpcgcjjabGreatRoomCP
import Derived.Test.YteibbknpcgcjjabGreatPack12
set_option linter.unusedVariables false
set_option linter.unusedSimpArgs false
namespace Go.Proofs.YteibbknpcgcjjabGreat
open Go.RowKit Go.Deep Go.Joins Go.Maps
attribute [local go_sem ↓] Go.wp_at_zero Go.wp_at_succ

theorem gr2_new (w : World) (a b : Value) : VHas (w.alloc (.cells #[a, b] 26)) w.heap.size 26 2 (me2 a b) :=
  ⟨_, Go.Deep.blk_alloc_new _ _, by simp, fun j hj => by
    have : j = 0 ∨ j = 1 := by omega
    rcases this with rfl | rfl <;> rfl⟩
/-- The boxes of three arguments and of a map and a metric that are answered. -/
structure B5 (w : World) (c0 c1 c2 c3 c4 c5 : Value) (W : World) : Prop where
  bel : Below w.heap.size w W
  g0 : W.cell? ⟨w.heap.size, 0, none⟩ = some c0
  g1 : W.cell? ⟨w.heap.size, 1, none⟩ = some c1
  h0 : W.cell? ⟨w.heap.size + 1, 0, none⟩ = some c2
  h1 : W.cell? ⟨w.heap.size + 1, 1, none⟩ = some c3
  m0 : W.cell? ⟨w.heap.size + 2, 0, none⟩ = some c4
  m1 : W.cell? ⟨w.heap.size + 2, 1, none⟩ = some c5
  rg : VHas W (w.heap.size + 3) 26 2 (me2 (.int .i64 0) (.slice none 0 0))
  rm : VHas W (w.heap.size + 4) 34 2 (me2 (.slice none 0 0) (.slice none 0 0))
theorem B5.next {w : World} {c0 c1 c2 c3 c4 c5 : Value} {W W' : World} (h : B5 w c0 c1 c2 c3 c4 c5 W) (hb : Below W.heap.size W W') : B5 w c0 c1 c2 c3 c4 c5 W' :=
  ⟨below_next h.bel (Nat.le_refl _) hb, keep_cell hb (Nat.le_refl _) h.g0, keep_cell hb (Nat.le_refl _) h.g1, keep_cell hb (Nat.le_refl _) h.h0, keep_cell hb (Nat.le_refl _) h.h1, keep_cell hb (Nat.le_refl _) h.m0, keep_cell hb (Nat.le_refl _) h.m1, h.rg.next hb, h.rm.next hb⟩
theorem b5_new (w : World) (c0 c1 c2 c3 c4 c5 : Value) : B5 w c0 c1 c2 c3 c4 c5 (((((w.alloc (.cells #[c0, c1] 26)).alloc (.cells #[c2, c3] 30)).alloc (.cells #[c4, c5] 34)).alloc (.cells #[.int .i64 0, .slice none 0 0] 26)).alloc (.cells #[.slice none 0 0, .slice none 0 0] 34)) := by
  refine ⟨(((((Below.refl _ w).alloc (Nat.le_refl _) _).alloc (by simp) _).alloc (by simp; omega) _).alloc (by simp; omega) _).alloc (by simp; omega) _, by simp [go_sem], by simp [go_sem], by simp [go_sem], by simp [go_sem], by simp [go_sem], by simp [go_sem], ?_, ?_⟩
  · have := (gr2_new (((w.alloc (.cells #[c0, c1] 26)).alloc (.cells #[c2, c3] 30)).alloc (.cells #[c4, c5] 34)) (.int .i64 0) (.slice none 0 0)).alloc (.cells #[.slice none 0 0, .slice none 0 0] 34)
    simpa using this
  · have := me2_new ((((w.alloc (.cells #[c0, c1] 26)).alloc (.cells #[c2, c3] 30)).alloc (.cells #[c4, c5] 34)).alloc (.cells #[.int .i64 0, .slice none 0 0] 26)) (.slice none 0 0) (.slice none 0 0)
    simpa using this
/-- What Recustomize answers: the map's weights, how long the metric, the metric, whether. -/
def IsRec (p : Int) (n : Nat) (F T G : Nat → Int) (k : Nat) (P : Nat → Int) (m : Nat) (L H : Nat → Int) (u : Nat) (U : Nat → Int) (v : Nat) (V : Nat → Int) (s : Nat) (A B C : Nat → Int) (p' : Int) (n' : Nat) (H' : Nat → Int) (m' : Nat) (CU CD : Nat → Int) (ok : Bool) : Prop :=
  (resOf p n F T G s A B C = some H' ∧ RcOk p n F T G k P m L H u U v V true ∧ p' = p ∧ n' = n ∧ m' = m ∧ cusT p n F T H' P = (CU, CD) ∧ ok = true) ∨
  (¬ (resOf p n F T G s A B C ≠ none ∧ RcOk p n F T G k P m L H u U v V true) ∧ p' = 0 ∧ n' = 0 ∧ m' = 0 ∧ ok = false)
theorem OwnS.next {W W' : World} {B n : Nat} {ao : Option Addr} {f : Nat → Int} (h : OwnS W B ao n f) (hb : Below W.heap.size W W') : OwnS W' B ao n f := fun k hk => by
  obtain ⟨b, e, hB, hh⟩ := h k hk
  exact ⟨b, e, hB, hh.below hb hh.lt⟩
theorem OwnS.turns {W W' : World} {B n : Nat} {ao : Option Addr} {f : Nat → Int} {S : List Nat} (h : OwnS W B ao n f) (t : Turns W W' S) (hne : 0 < n → ∀ a, ao = some a → a.block ∉ S) : OwnS W' B ao n f := fun k hk => by
  obtain ⟨b, e, hB, hh⟩ := h k hk
  exact ⟨b, e, hB, hh.of_block (t.block b hh.lt (hne (by omega) _ e))⟩
/-- The answer: a map of F and T, a metric, whether; all of the call's own. -/
def RAns (w w' : World) (e : Ending) (p' : Int) (n' : Nat) (F T H' : Nat → Int) (m' : Nat) (CU CD : Nat → Int) (ok : Bool) : Prop :=
  ∃ ao cap xo xc yo yc, e = .returned (.tuple #[.agg #[.int .i64 p', .slice ao n' cap], .agg #[.slice xo m' xc, .slice yo m' yc], .bool ok]) ∧ OwnS w' w.heap.size ao n' (ar F T H') ∧ (0 < m' → ∃ b c, xo = some ⟨b, 0, none⟩ ∧ yo = some ⟨c, 0, none⟩ ∧ w.heap.size ≤ b ∧ w.heap.size ≤ c ∧ b ≠ c ∧ IHas w' b m' CU ∧ IHas w' c m' CD) ∧ w.heap.size + 3 ≤ w'.heap.size ∧ Below w.heap.size w w'

set_option maxRecDepth 100000 in
set_option maxHeartbeats 4000000 in
theorem specRecustomize_any (p : Int) (ao : Option Addr) (n cap : Nat) (F T G : Nat → Int) (po : Option Addr) (k pcap : Nat) (P : Nat → Int) (eo : Option Addr) (m ecap : Nat) (L H : Nat → Int) (uo : Option Addr) (u ucap : Nat) (U : Nat → Int) (vo : Option Addr) (v vcap : Nat) (V : Nat → Int) (so : Option Addr) (s scap : Nat) (A B C : Nat → Int) (hn : n ≤ 1048576) (hk : k ≤ 1048576) (hm : m ≤ 1048576) (hu : u ≤ 1048576) (hv : v ≤ 1048576) (hs : s ≤ 1048576) (w : World) (hr : Row w ao n F T G) (hp : IRow w po k P) (he : ERow w eo m L H) (hU : IRow w uo u U) (hV : IRow w vo v V) (ha : Row w so s A B C) (p' : Int) (n' : Nat) (H' : Nat → Int) (m' : Nat) (CU CD : Nat → Int) (ok : Bool) (hrec : IsRec p n F T G k P m L H u U v V s A B C p' n' H' m' CU CD ok) :
    Calls Tryz.prog 20 #[.agg #[.int .i64 p, .slice ao n cap], .agg #[.slice po k pcap, .slice eo m ecap], .agg #[.slice uo u ucap, .slice vo v vcap], .slice so s scap] w fun e w' => RAns w w' e p' n' F T H' m' CU CD ok := by
  have hD := b5_new w (.int .i64 p) (.slice ao n cap) (.slice po k pcap) (.slice eo m ecap) (.slice uo u ucap) (.slice vo v vcap)
  cases hres : resOf p n F T G s A B C with
  | none =>
    obtain ⟨rfl, rfl, rfl, rfl⟩ : p' = 0 ∧ n' = 0 ∧ m' = 0 ∧ ok = false := by
      rcases hrec with h | h
      · rw [hres] at h; exact absurd h.1 (by simp)
      · exact h.2
    have hir : IsRes (resOf p n F T G s A B C) p n 0 0 H' false := .inr ⟨hres, rfl, rfl, rfl⟩
    clear hrec
    go_enter Tryz.func20, Tryz.ntmps20
    go_wp2_with fail
    refine (specReweigh_any p ao n cap F T G so s scap A B C hn hs _ (hr.below hD.bel (Nat.le_refl _)) (ha.below hD.bel (Nat.le_refl _)) 0 0 H' false hir).mono ?_
    rintro e w1 ⟨xo, xc, rfl, hrow, hb1⟩
    replace hD := hD.next hb1
    clear hb1
    have hD2 := hD.next (alloc_b w1 (.cells #[.int .i64 0, .slice xo 0 xc] 26))
    replace hD := hD2
    clear hD2
    have r0 : (w1.alloc (.cells #[.int .i64 0, .slice xo 0 xc] 26)).cell? ⟨w.heap.size + 3, 0, none⟩ = some (.int .i64 0) := hD.rg.cell (j := 0) (by omega)
    have r1 : (w1.alloc (.cells #[.int .i64 0, .slice xo 0 xc] 26)).cell? ⟨w.heap.size + 3, 1, none⟩ = some (.slice none 0 0) := hD.rg.cell (j := 1) (by omega)
    have r2 : (w1.alloc (.cells #[.int .i64 0, .slice xo 0 xc] 26)).cell? ⟨w.heap.size + 4, 0, none⟩ = some (.slice none 0 0) := hD.rm.cell (j := 0) (by omega)
    have r3 : (w1.alloc (.cells #[.int .i64 0, .slice xo 0 xc] 26)).cell? ⟨w.heap.size + 4, 1, none⟩ = some (.slice none 0 0) := hD.rm.cell (j := 1) (by omega)
    have z0 := hD.rg.frozen 0
    have z1 := hD.rg.frozen 1
    have z2 := hD.rm.frozen 0
    have z3 := hD.rm.frozen 1
    have hl3 := hD.rg.lt
    have hl4 := hD.rm.lt
    go_wp2
    have hB4 := ret_below (ret_below hD.bel (s := w.heap.size + 3) (by omega) (.int .i64 0) (.slice none 0 0)) (s := w.heap.size + 4) (by omega) (.slice none 0 0) (.slice none 0 0)
    have d0 : (((((w1.alloc (.cells #[.int .i64 0, .slice xo 0 xc] 26)).setCell ⟨w.heap.size + 3, 0, none⟩ (.int .i64 0)).setCell ⟨w.heap.size + 3, 1, none⟩ (.slice none 0 0)).setCell ⟨w.heap.size + 4, 0, none⟩ (.slice none 0 0)).setCell ⟨w.heap.size + 4, 1, none⟩ (.slice none 0 0)).cell? ⟨w.heap.size + 3, 0, none⟩ = some (.int .i64 0) := by simp [go_sem, r0, r1, r2, r3]
    have d1 : (((((w1.alloc (.cells #[.int .i64 0, .slice xo 0 xc] 26)).setCell ⟨w.heap.size + 3, 0, none⟩ (.int .i64 0)).setCell ⟨w.heap.size + 3, 1, none⟩ (.slice none 0 0)).setCell ⟨w.heap.size + 4, 0, none⟩ (.slice none 0 0)).setCell ⟨w.heap.size + 4, 1, none⟩ (.slice none 0 0)).cell? ⟨w.heap.size + 3, 1, none⟩ = some (.slice none 0 0) := by simp [go_sem, r0, r1, r2, r3]
    have d2 : (((((w1.alloc (.cells #[.int .i64 0, .slice xo 0 xc] 26)).setCell ⟨w.heap.size + 3, 0, none⟩ (.int .i64 0)).setCell ⟨w.heap.size + 3, 1, none⟩ (.slice none 0 0)).setCell ⟨w.heap.size + 4, 0, none⟩ (.slice none 0 0)).setCell ⟨w.heap.size + 4, 1, none⟩ (.slice none 0 0)).cell? ⟨w.heap.size + 4, 0, none⟩ = some (.slice none 0 0) := by simp [go_sem, r0, r1, r2, r3]
    have d3 : (((((w1.alloc (.cells #[.int .i64 0, .slice xo 0 xc] 26)).setCell ⟨w.heap.size + 3, 0, none⟩ (.int .i64 0)).setCell ⟨w.heap.size + 3, 1, none⟩ (.slice none 0 0)).setCell ⟨w.heap.size + 4, 0, none⟩ (.slice none 0 0)).setCell ⟨w.heap.size + 4, 1, none⟩ (.slice none 0 0)).cell? ⟨w.heap.size + 4, 1, none⟩ = some (.slice none 0 0) := by simp [go_sem, r0, r1, r2, r3]
    have hs4 : w.heap.size + 3 ≤ (((((w1.alloc (.cells #[.int .i64 0, .slice xo 0 xc] 26)).setCell ⟨w.heap.size + 3, 0, none⟩ (.int .i64 0)).setCell ⟨w.heap.size + 3, 1, none⟩ (.slice none 0 0)).setCell ⟨w.heap.size + 4, 0, none⟩ (.slice none 0 0)).setCell ⟨w.heap.size + 4, 1, none⟩ (.slice none 0 0)).heap.size := by have hq4 := hl4; simp [World.setCell] at hq4 ⊢; omega
    have hbk : ∀ q, q ≠ w.heap.size + 3 → q ≠ w.heap.size + 4 → (((((w1.alloc (.cells #[.int .i64 0, .slice xo 0 xc] 26)).setCell ⟨w.heap.size + 3, 0, none⟩ (.int .i64 0)).setCell ⟨w.heap.size + 3, 1, none⟩ (.slice none 0 0)).setCell ⟨w.heap.size + 4, 0, none⟩ (.slice none 0 0)).setCell ⟨w.heap.size + 4, 1, none⟩ (.slice none 0 0)).heap[q]? = (w1.alloc (.cells #[.int .i64 0, .slice xo 0 xc] 26)).heap[q]? := fun q hq hq2 => (ret_block _ _ hq2).trans (ret_block _ _ hq)
    generalize (((((w1.alloc (.cells #[.int .i64 0, .slice xo 0 xc] 26)).setCell ⟨w.heap.size + 3, 0, none⟩ (.int .i64 0)).setCell ⟨w.heap.size + 3, 1, none⟩ (.slice none 0 0)).setCell ⟨w.heap.size + 4, 0, none⟩ (.slice none 0 0)).setCell ⟨w.heap.size + 4, 1, none⟩ (.slice none 0 0)) = W4 at hB4 d0 d1 d2 d3 hs4 hbk ⊢
    clear r0 r1 r2 r3 z0 z1 z2 z3
    simp [bodyPost, results, Tryz.results20, go_sem, d0, d1, d2, d3]
    exact ⟨none, 0, none, 0, none, 0, by simp, fun q hq => by omega, fun h => by omega, hs4, hB4⟩
  | some Hn =>
    have hir : IsRes (resOf p n F T G s A B C) p n p n Hn true := .inl ⟨hres, rfl, rfl, rfl⟩
    have HGR : Hid (graphB p n F T Hn = true) := res_ok hres
    go_enter Tryz.func20, Tryz.ntmps20
    go_wp2_with fail
    refine (specReweigh_own p ao n cap F T G so s scap A B C hn hs _ (hr.below hD.bel (Nat.le_refl _)) (ha.below hD.bel (Nat.le_refl _)) p n Hn true hir).mono ?_
    rintro e w1 ⟨xo, xc, rfl, hrow, hb1⟩
    have hl4 := (hD.next hb1).rm.lt
    replace hD := (hD.next hb1).next (alloc_b w1 (.cells #[.int .i64 p, .slice xo n xc] 26))
    have hx0 : (w1.alloc (.cells #[.int .i64 p, .slice xo n xc] 26)).cell? ⟨w1.heap.size, 0, none⟩ = some (.int .i64 p) := by simp [go_sem]
    have hx1 : (w1.alloc (.cells #[.int .i64 p, .slice xo n xc] 26)).cell? ⟨w1.heap.size, 1, none⟩ = some (.slice xo n xc) := by simp [go_sem]
    have hxg : 0 < n → ∃ g, xo = some ⟨g, 0, none⟩ ∧ w.heap.size + 5 ≤ g := fun h0 => by
      obtain ⟨g, e1, e2, _⟩ := hrow 0 h0
      simp only [World.size_alloc] at e2
      exact ⟨g, e1, by omega⟩
    replace hrow := hrow.next (alloc_b w1 (.cells #[.int .i64 p, .slice xo n xc] 26))
    clear hb1
    have q0 := hD.g0
    have q1 := hD.g1
    have q2 := hD.h0
    have q3 := hD.h1
    have q4 := hD.m0
    have q5 := hD.m1
    go_wp2_with fail
    refine (l5Is_any p ao n cap F T G po k pcap P eo m ecap L H uo u ucap U vo v vcap V hn hk hm hu hv _ (hr.below hD.bel (Nat.le_refl _)) (hp.below hD.bel (Nat.le_refl _)) (he.below hD.bel (Nat.le_refl _)) (hU.below hD.bel (Nat.le_refl _)) (hV.below hD.bel (Nat.le_refl _))).mono ?_
    rintro e w2 ⟨⟨x, rfl, hx⟩, hb2⟩
    replace hD := hD.next hb2
    replace hx0 := keep_cell hb2 (Nat.le_refl _) hx0
    replace hx1 := keep_cell hb2 (Nat.le_refl _) hx1
    replace hrow := hrow.next hb2
    have hs2 := hb2.size
    simp only [World.size_alloc] at hs2
    clear hb2 q0 q1 q2 q3 q4 q5
    cases x
    · obtain ⟨rfl, rfl, rfl, rfl⟩ : p' = 0 ∧ n' = 0 ∧ m' = 0 ∧ ok = false := by
        rcases hrec with h | h
        · have := hx.2 h.2.1.2; cases this
        · exact h.2
      clear hrec hx
      have r0 : w2.cell? ⟨w.heap.size + 3, 0, none⟩ = some (.int .i64 0) := hD.rg.cell (j := 0) (by omega)
      have r1 : w2.cell? ⟨w.heap.size + 3, 1, none⟩ = some (.slice none 0 0) := hD.rg.cell (j := 1) (by omega)
      have r2 : w2.cell? ⟨w.heap.size + 4, 0, none⟩ = some (.slice none 0 0) := hD.rm.cell (j := 0) (by omega)
      have r3 : w2.cell? ⟨w.heap.size + 4, 1, none⟩ = some (.slice none 0 0) := hD.rm.cell (j := 1) (by omega)
      have z0 := hD.rg.frozen 0
      have z1 := hD.rg.frozen 1
      have z2 := hD.rm.frozen 0
      have z3 := hD.rm.frozen 1
      have hl3 := hD.rg.lt
      have hl4 := hD.rm.lt
      go_wp2
      have hB4 := ret_below (ret_below hD.bel (s := w.heap.size + 3) (by omega) (.int .i64 0) (.slice none 0 0)) (s := w.heap.size + 4) (by omega) (.slice none 0 0) (.slice none 0 0)
      have d0 : ((((w2.setCell ⟨w.heap.size + 3, 0, none⟩ (.int .i64 0)).setCell ⟨w.heap.size + 3, 1, none⟩ (.slice none 0 0)).setCell ⟨w.heap.size + 4, 0, none⟩ (.slice none 0 0)).setCell ⟨w.heap.size + 4, 1, none⟩ (.slice none 0 0)).cell? ⟨w.heap.size + 3, 0, none⟩ = some (.int .i64 0) := by simp [go_sem, r0, r1, r2, r3]
      have d1 : ((((w2.setCell ⟨w.heap.size + 3, 0, none⟩ (.int .i64 0)).setCell ⟨w.heap.size + 3, 1, none⟩ (.slice none 0 0)).setCell ⟨w.heap.size + 4, 0, none⟩ (.slice none 0 0)).setCell ⟨w.heap.size + 4, 1, none⟩ (.slice none 0 0)).cell? ⟨w.heap.size + 3, 1, none⟩ = some (.slice none 0 0) := by simp [go_sem, r0, r1, r2, r3]
      have d2 : ((((w2.setCell ⟨w.heap.size + 3, 0, none⟩ (.int .i64 0)).setCell ⟨w.heap.size + 3, 1, none⟩ (.slice none 0 0)).setCell ⟨w.heap.size + 4, 0, none⟩ (.slice none 0 0)).setCell ⟨w.heap.size + 4, 1, none⟩ (.slice none 0 0)).cell? ⟨w.heap.size + 4, 0, none⟩ = some (.slice none 0 0) := by simp [go_sem, r0, r1, r2, r3]
      have d3 : ((((w2.setCell ⟨w.heap.size + 3, 0, none⟩ (.int .i64 0)).setCell ⟨w.heap.size + 3, 1, none⟩ (.slice none 0 0)).setCell ⟨w.heap.size + 4, 0, none⟩ (.slice none 0 0)).setCell ⟨w.heap.size + 4, 1, none⟩ (.slice none 0 0)).cell? ⟨w.heap.size + 4, 1, none⟩ = some (.slice none 0 0) := by simp [go_sem, r0, r1, r2, r3]
      have hs4 : w.heap.size + 3 ≤ ((((w2.setCell ⟨w.heap.size + 3, 0, none⟩ (.int .i64 0)).setCell ⟨w.heap.size + 3, 1, none⟩ (.slice none 0 0)).setCell ⟨w.heap.size + 4, 0, none⟩ (.slice none 0 0)).setCell ⟨w.heap.size + 4, 1, none⟩ (.slice none 0 0)).heap.size := by have hq4 := hl4; simp [World.setCell] at hq4 ⊢; omega
      have hbk : ∀ q, q ≠ w.heap.size + 3 → q ≠ w.heap.size + 4 → ((((w2.setCell ⟨w.heap.size + 3, 0, none⟩ (.int .i64 0)).setCell ⟨w.heap.size + 3, 1, none⟩ (.slice none 0 0)).setCell ⟨w.heap.size + 4, 0, none⟩ (.slice none 0 0)).setCell ⟨w.heap.size + 4, 1, none⟩ (.slice none 0 0)).heap[q]? = w2.heap[q]? := fun q hq hq2 => (ret_block _ _ hq2).trans (ret_block _ _ hq)
      generalize ((((w2.setCell ⟨w.heap.size + 3, 0, none⟩ (.int .i64 0)).setCell ⟨w.heap.size + 3, 1, none⟩ (.slice none 0 0)).setCell ⟨w.heap.size + 4, 0, none⟩ (.slice none 0 0)).setCell ⟨w.heap.size + 4, 1, none⟩ (.slice none 0 0)) = W4 at hB4 d0 d1 d2 d3 hs4 hbk ⊢
      clear r0 r1 r2 r3 z0 z1 z2 z3
      simp [bodyPost, results, Tryz.results20, go_sem, d0, d1, d2, d3]
      exact ⟨none, 0, none, 0, none, 0, by simp, fun q hq => by omega, fun h => by omega, hs4, hB4⟩
    have HRC : Hid (HOk p n F T G k P m L H) := (hx.1 rfl).1
    obtain ⟨rfl, rfl, rfl, hcus, rfl⟩ : p' = p ∧ n' = n ∧ m' = m ∧ cusT p n F T Hn P = (CU, CD) ∧ ok = true := by
      rcases hrec with h | h
      · have e1 := h.1
        rw [hres] at e1
        simp only [Option.some.injEq] at e1
        rw [e1]
        exact ⟨h.2.2.1, h.2.2.2.1, h.2.2.2.2.1, h.2.2.2.2.2.1, h.2.2.2.2.2.2⟩
      · exact absurd ⟨by rw [hres]; simp, rfl, hx.1 rfl⟩ h.1
    have HHn : Hid (H' = Hn) := by
      rcases hrec with h | h
      · have e1 := h.1
        rw [hres] at e1
        simp only [Option.some.injEq] at e1
        exact e1.symm
      · exact absurd h.2.2.2.2 (by simp)
    clear hrec hx
    obtain ⟨hlen, heq⟩ := hok_len HRC.out
    have hE := cenv_of (ord_w HRC.out.1 HGR.out)
    rw [← hlen] at hE
    have hga : arcsB p' F T Hn n' = true := (graphB_arcs HGR.out).2
    have HC : Hid (cusT p' n' F T Hn P = runT (w0U n' F T Hn P (Lf (lstF p' n' F T P)) (Hf (lstF p' n' F T P)), w0D n' F T Hn P (Lf (lstF p' n' F T P)) (Hf (lstF p' n' F T P))) (allT m' (Lf (lstF p' n' F T P)) (Hf (lstF p' n' F T P)) m')) := by
      show _ = _
      unfold cusT
      rw [← hlen]
    have he2 : ERow w eo m' (Lf (lstF p' n' F T P)) (Hf (lstF p' n' F T P)) := he.congr (fun i hi => (heq i hi).1) (fun i hi => (heq i hi).2)
    have HCU : Hid (∀ ao' cap' po' pcap' eo' ecap' W, Row W ao' n' F T Hn → IRow W po' k P → ERow W eo' m' (Lf (lstF p' n' F T P)) (Hf (lstF p' n' F T P)) → Calls Tryz.prog 32 #[.agg #[.int .i64 p', .slice ao' n' cap'], .agg #[.slice po' k pcap', .slice eo' m' ecap']] W fun e w' => MAns W w' e m' CU CD) := fun ao' cap' po' pcap' eo' ecap' W h1 h2 h3 => by
      have := l5Customize_any p' ao' n' cap' F T Hn po' k pcap' P eo' m' ecap' _ _ hn hm hk hga hE.chd W h1 h2 h3
      rw [← HC.out, hcus] at this
      exact this
    clear hE hga HC heq hlen hcus
    have hD1 := hD.next (drew_b w2)
    have hrow1 := hrow.next (drew_b w2)
    have q0 := hD1.h0
    have q1 := hD1.h1
    have y0 := keep_cell (drew_b w2) (Nat.le_refl _) hx0
    have y1 := keep_cell (drew_b w2) (Nat.le_refl _) hx1
    clear hD hrow hx0 hx1
    go_wp2_with fail
    go_region_held3 (fun X : World => X.cell? ⟨w1.heap.size, 0, none⟩ = some (.int .i64 p') ∧ X.cell? ⟨w1.heap.size, 1, none⟩ = some (.slice xo n' xc) ∧ X.cell? ⟨w.heap.size + 1, 0, none⟩ = some (.slice po k pcap) ∧ X.cell? ⟨w.heap.size + 1, 1, none⟩ = some (.slice eo m' ecap))
      (first | (go_split_ands; refine ⟨?_, ?_, ?_, ?_⟩ <;> exact keep_cell hb3 (Nat.le_refl _) (by assumption)) | (go_split_ands; refine ⟨?_, ?_, ?_, ?_⟩ <;> exact cell_ret (by assumption) (by omega)) | (refine ⟨?_, ?_, ?_, ?_⟩ <;> assumption))
      (first | (go_at_call 32; refine (HCU.out _ _ _ _ _ _ _ hrow1.row (hp.below hD1.bel (Nat.le_refl _)) (he2.below hD1.bel (Nat.le_refl _))).mono ?_; rintro e w3 ⟨ko, kc, lo, lc, rfl, hXY, hsz, hb3⟩; have hD3 := hD1.next hb3; have hrow3 := hrow1.next hb3; have r0 : w3.cell? ⟨w.heap.size + 3, 0, none⟩ = some (.int .i64 0) := hD3.rg.cell (j := 0) (by omega); have r1 : w3.cell? ⟨w.heap.size + 3, 1, none⟩ = some (.slice none 0 0) := hD3.rg.cell (j := 1) (by omega); have r2 : w3.cell? ⟨w.heap.size + 4, 0, none⟩ = some (.slice none 0 0) := hD3.rm.cell (j := 0) (by omega); have r3 : w3.cell? ⟨w.heap.size + 4, 1, none⟩ = some (.slice none 0 0) := hD3.rm.cell (j := 1) (by omega); have z0 := hD3.rg.frozen 0; have z1 := hD3.rg.frozen 1; have z2 := hD3.rm.frozen 0; have z3 := hD3.rm.frozen 1; have hl3 := hD3.rg.lt))
    clear y0 y1 q0 q1
    go_wp2
    have hB4 := ret_below (ret_below hD3.bel (s := w.heap.size + 3) (by omega) (.int .i64 p') (.slice xo n' xc)) (s := w.heap.size + 4) (by omega) (.slice ko m' kc) (.slice lo m' lc)
    have d0 : ((((w3.setCell ⟨w.heap.size + 3, 0, none⟩ (.int .i64 p')).setCell ⟨w.heap.size + 3, 1, none⟩ (.slice xo n' xc)).setCell ⟨w.heap.size + 4, 0, none⟩ (.slice ko m' kc)).setCell ⟨w.heap.size + 4, 1, none⟩ (.slice lo m' lc)).cell? ⟨w.heap.size + 3, 0, none⟩ = some (.int .i64 p') := by simp [go_sem, r0, r1, r2, r3]
    have d1 : ((((w3.setCell ⟨w.heap.size + 3, 0, none⟩ (.int .i64 p')).setCell ⟨w.heap.size + 3, 1, none⟩ (.slice xo n' xc)).setCell ⟨w.heap.size + 4, 0, none⟩ (.slice ko m' kc)).setCell ⟨w.heap.size + 4, 1, none⟩ (.slice lo m' lc)).cell? ⟨w.heap.size + 3, 1, none⟩ = some (.slice xo n' xc) := by simp [go_sem, r0, r1, r2, r3]
    have d2 : ((((w3.setCell ⟨w.heap.size + 3, 0, none⟩ (.int .i64 p')).setCell ⟨w.heap.size + 3, 1, none⟩ (.slice xo n' xc)).setCell ⟨w.heap.size + 4, 0, none⟩ (.slice ko m' kc)).setCell ⟨w.heap.size + 4, 1, none⟩ (.slice lo m' lc)).cell? ⟨w.heap.size + 4, 0, none⟩ = some (.slice ko m' kc) := by simp [go_sem, r0, r1, r2, r3]
    have d3 : ((((w3.setCell ⟨w.heap.size + 3, 0, none⟩ (.int .i64 p')).setCell ⟨w.heap.size + 3, 1, none⟩ (.slice xo n' xc)).setCell ⟨w.heap.size + 4, 0, none⟩ (.slice ko m' kc)).setCell ⟨w.heap.size + 4, 1, none⟩ (.slice lo m' lc)).cell? ⟨w.heap.size + 4, 1, none⟩ = some (.slice lo m' lc) := by simp [go_sem, r0, r1, r2, r3]
    have hs4 : w.heap.size + 3 ≤ ((((w3.setCell ⟨w.heap.size + 3, 0, none⟩ (.int .i64 p')).setCell ⟨w.heap.size + 3, 1, none⟩ (.slice xo n' xc)).setCell ⟨w.heap.size + 4, 0, none⟩ (.slice ko m' kc)).setCell ⟨w.heap.size + 4, 1, none⟩ (.slice lo m' lc)).heap.size := by have hq4 := hD3.rm.lt; simp [World.setCell] at hq4 ⊢; omega
    have hbk : ∀ q, q ≠ w.heap.size + 3 → q ≠ w.heap.size + 4 → ((((w3.setCell ⟨w.heap.size + 3, 0, none⟩ (.int .i64 p')).setCell ⟨w.heap.size + 3, 1, none⟩ (.slice xo n' xc)).setCell ⟨w.heap.size + 4, 0, none⟩ (.slice ko m' kc)).setCell ⟨w.heap.size + 4, 1, none⟩ (.slice lo m' lc)).heap[q]? = w3.heap[q]? := fun q hq hq2 => (ret_block _ _ hq2).trans (ret_block _ _ hq)
    generalize ((((w3.setCell ⟨w.heap.size + 3, 0, none⟩ (.int .i64 p')).setCell ⟨w.heap.size + 3, 1, none⟩ (.slice xo n' xc)).setCell ⟨w.heap.size + 4, 0, none⟩ (.slice ko m' kc)).setCell ⟨w.heap.size + 4, 1, none⟩ (.slice lo m' lc)) = W4 at hB4 d0 d1 d2 d3 hs4 hbk ⊢
    clear r0 r1 r2 r3 z0 z1 z2 z3
    simp [bodyPost, results, Tryz.results20, go_sem, d0, d1, d2, d3]
    exact ⟨xo, xc, ko, kc, lo, lc, by simp, fun q hq => by
      obtain ⟨g, e1, e2, hh⟩ := hrow3 q hq
      simp only [World.size_alloc] at e2
      rw [HHn.out]
      exact ⟨g, e1, by omega, hh.of_block (hbk g (by omega) (by omega))⟩, fun h0 => by
      obtain ⟨b, c, e1, e2, g1, g2, hne, i1, i2⟩ := hXY h0
      simp only [World.size_drew] at g1 g2
      exact ⟨b, c, e1, e2, by omega, by omega, hne, i1.of_block (hbk b (by omega) (by omega)), i2.of_block (hbk c (by omega) (by omega))⟩, hs4, hB4⟩

end Go.Proofs.YteibbknpcgcjjabGreat
