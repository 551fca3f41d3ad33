/-
  Recustomize, the program's.
-/
import Derived.Test.YteibbknpcgcjjabGreatRecAP
set_option linter.unusedVariables false
set_option linter.unusedSimpArgs false
namespace Go.Proofs.YteibbknpcgcjjabGreat
open Go.RowKit Go.Deep Go.Joins Go.Maps
attribute [local go_sem ↓] Go.wp_at_zero Go.wp_at_succ

theorem B5.turn {w : World} {c0 c1 c2 c3 c4 c5 : Value} {W W' : World} {bU bV : Nat} (h : B5 w c0 c1 c2 c3 c4 c5 W) (T : Turns W W' [bU, bV]) (h1 : w.heap.size + 5 ≤ bU) (h2 : w.heap.size + 5 ≤ bV) : B5 w c0 c1 c2 c3 c4 c5 W' :=
  ⟨h.bel.trans (T.below h.bel.size (fun x hx => by simp at hx; omega)), T.cell (by simp; omega) h.g0, T.cell (by simp; omega) h.g1, T.cell (by simp; omega) h.h0, T.cell (by simp; omega) h.h1, T.cell (by simp; omega) h.m0, T.cell (by simp; omega) h.m1, h.rg.of_block (T.block _ h.rg.lt (by simp; omega)), h.rm.of_block (T.block _ h.rm.lt (by simp; omega))⟩
theorem row_turns {W W' : World} {ao : Option Addr} {n : Nat} {F T G : Nat → Int} {S : List Nat} (h : Row W ao n F T G) (t : Turns W W' S) (hne : 0 < n → ∀ a, ao = some a → a.block ∉ S) : Row W' ao n F T G := fun k hk => by
  obtain ⟨b, o, e, c0, c1, c2⟩ := h k hk
  have hb := hne (by omega) _ e
  exact ⟨b, o, e, t.cell hb c0, t.cell hb c1, t.cell hb c2⟩

set_option maxRecDepth 100000 in
set_option maxHeartbeats 4000000 in
theorem implRecustomize_any (p : Int) (ao : Option Addr) (n cap : Nat) (F T G : Nat → Int) (po : Option Addr) (k pcap : Nat) (P : Nat → Int) (eo : Option Addr) (m ecap : Nat) (L H : Nat → Int) (uo : Option Addr) (u ucap : Nat) (U : Nat → Int) (vo : Option Addr) (v vcap : Nat) (V : Nat → Int) (so : Option Addr) (s scap : Nat) (A B C : Nat → Int) (hn : n ≤ 1048576) (hk : k ≤ 1048576) (hm : m ≤ 1048576) (hu : u ≤ 1048576) (hv : v ≤ 1048576) (hs : s ≤ 1048576) (hwf : WfTo A B s) (w : World) (hr : Row w ao n F T G) (hp : IRow w po k P) (he : ERow w eo m L H) (hU : IRow w uo u U) (hV : IRow w vo v V) (ha : Row w so s A B C) (p' : Int) (n' : Nat) (H' : Nat → Int) (m' : Nat) (CU CD : Nat → Int) (ok : Bool) (hrec : IsRec p n F T G k P m L H u U v V s A B C p' n' H' m' CU CD ok) :
    Calls Tryz.prog 19 #[.agg #[.int .i64 p, .slice ao n cap], .agg #[.slice po k pcap, .slice eo m ecap], .agg #[.slice uo u ucap, .slice vo v vcap], .slice so s scap] w fun e w' => RAns w w' e p' n' F T H' m' CU CD ok := by
  have hD := b5_new w (.int .i64 p) (.slice ao n cap) (.slice po k pcap) (.slice eo m ecap) (.slice uo u ucap) (.slice vo v vcap)
  cases hres : resOf p n F T G s A B C with
  | none =>
    obtain ⟨rfl, rfl, rfl, rfl⟩ : p' = 0 ∧ n' = 0 ∧ m' = 0 ∧ ok = false := by
      rcases hrec with h | h
      · rw [hres] at h; exact absurd h.1 (by simp)
      · exact h.2
    have hir : IsRes (resOf p n F T G s A B C) p n 0 0 H' false := .inr ⟨hres, rfl, rfl, rfl⟩
    clear hrec
    go_enter Tryz.func19, Tryz.ntmps19
    go_wp2_with fail
    refine (implReweigh_any p ao n cap F T G so s scap A B C hn hs hwf _ (hr.below hD.bel (Nat.le_refl _)) (ha.below hD.bel (Nat.le_refl _)) 0 0 H' false hir).mono ?_
    rintro e w1 ⟨xo, xc, rfl, hrow, hb1⟩
    replace hD := hD.next hb1
    clear hb1
    have hD2 := hD.next (alloc_b w1 (.cells #[.int .i64 0, .slice xo 0 xc] 26))
    replace hD := hD2
    clear hD2
    have r0 : (w1.alloc (.cells #[.int .i64 0, .slice xo 0 xc] 26)).cell? ⟨w.heap.size + 3, 0, none⟩ = some (.int .i64 0) := hD.rg.cell (j := 0) (by omega)
    have r1 : (w1.alloc (.cells #[.int .i64 0, .slice xo 0 xc] 26)).cell? ⟨w.heap.size + 3, 1, none⟩ = some (.slice none 0 0) := hD.rg.cell (j := 1) (by omega)
    have r2 : (w1.alloc (.cells #[.int .i64 0, .slice xo 0 xc] 26)).cell? ⟨w.heap.size + 4, 0, none⟩ = some (.slice none 0 0) := hD.rm.cell (j := 0) (by omega)
    have r3 : (w1.alloc (.cells #[.int .i64 0, .slice xo 0 xc] 26)).cell? ⟨w.heap.size + 4, 1, none⟩ = some (.slice none 0 0) := hD.rm.cell (j := 1) (by omega)
    have z0 := hD.rg.frozen 0
    have z1 := hD.rg.frozen 1
    have z2 := hD.rm.frozen 0
    have z3 := hD.rm.frozen 1
    have hl3 := hD.rg.lt
    have hl4 := hD.rm.lt
    go_wp2
    have hB4 := ret_below (ret_below hD.bel (s := w.heap.size + 3) (by omega) (.int .i64 0) (.slice none 0 0)) (s := w.heap.size + 4) (by omega) (.slice none 0 0) (.slice none 0 0)
    have d0 : (((((w1.alloc (.cells #[.int .i64 0, .slice xo 0 xc] 26)).setCell ⟨w.heap.size + 3, 0, none⟩ (.int .i64 0)).setCell ⟨w.heap.size + 3, 1, none⟩ (.slice none 0 0)).setCell ⟨w.heap.size + 4, 0, none⟩ (.slice none 0 0)).setCell ⟨w.heap.size + 4, 1, none⟩ (.slice none 0 0)).cell? ⟨w.heap.size + 3, 0, none⟩ = some (.int .i64 0) := by simp [go_sem, r0, r1, r2, r3]
    have d1 : (((((w1.alloc (.cells #[.int .i64 0, .slice xo 0 xc] 26)).setCell ⟨w.heap.size + 3, 0, none⟩ (.int .i64 0)).setCell ⟨w.heap.size + 3, 1, none⟩ (.slice none 0 0)).setCell ⟨w.heap.size + 4, 0, none⟩ (.slice none 0 0)).setCell ⟨w.heap.size + 4, 1, none⟩ (.slice none 0 0)).cell? ⟨w.heap.size + 3, 1, none⟩ = some (.slice none 0 0) := by simp [go_sem, r0, r1, r2, r3]
    have d2 : (((((w1.alloc (.cells #[.int .i64 0, .slice xo 0 xc] 26)).setCell ⟨w.heap.size + 3, 0, none⟩ (.int .i64 0)).setCell ⟨w.heap.size + 3, 1, none⟩ (.slice none 0 0)).setCell ⟨w.heap.size + 4, 0, none⟩ (.slice none 0 0)).setCell ⟨w.heap.size + 4, 1, none⟩ (.slice none 0 0)).cell? ⟨w.heap.size + 4, 0, none⟩ = some (.slice none 0 0) := by simp [go_sem, r0, r1, r2, r3]
    have d3 : (((((w1.alloc (.cells #[.int .i64 0, .slice xo 0 xc] 26)).setCell ⟨w.heap.size + 3, 0, none⟩ (.int .i64 0)).setCell ⟨w.heap.size + 3, 1, none⟩ (.slice none 0 0)).setCell ⟨w.heap.size + 4, 0, none⟩ (.slice none 0 0)).setCell ⟨w.heap.size + 4, 1, none⟩ (.slice none 0 0)).cell? ⟨w.heap.size + 4, 1, none⟩ = some (.slice none 0 0) := by simp [go_sem, r0, r1, r2, r3]
    have hs4 : w.heap.size + 3 ≤ (((((w1.alloc (.cells #[.int .i64 0, .slice xo 0 xc] 26)).setCell ⟨w.heap.size + 3, 0, none⟩ (.int .i64 0)).setCell ⟨w.heap.size + 3, 1, none⟩ (.slice none 0 0)).setCell ⟨w.heap.size + 4, 0, none⟩ (.slice none 0 0)).setCell ⟨w.heap.size + 4, 1, none⟩ (.slice none 0 0)).heap.size := by have hq4 := hl4; simp [World.setCell] at hq4 ⊢; omega
    have hbk : ∀ q, q ≠ w.heap.size + 3 → q ≠ w.heap.size + 4 → (((((w1.alloc (.cells #[.int .i64 0, .slice xo 0 xc] 26)).setCell ⟨w.heap.size + 3, 0, none⟩ (.int .i64 0)).setCell ⟨w.heap.size + 3, 1, none⟩ (.slice none 0 0)).setCell ⟨w.heap.size + 4, 0, none⟩ (.slice none 0 0)).setCell ⟨w.heap.size + 4, 1, none⟩ (.slice none 0 0)).heap[q]? = (w1.alloc (.cells #[.int .i64 0, .slice xo 0 xc] 26)).heap[q]? := fun q hq hq2 => (ret_block _ _ hq2).trans (ret_block _ _ hq)
    generalize (((((w1.alloc (.cells #[.int .i64 0, .slice xo 0 xc] 26)).setCell ⟨w.heap.size + 3, 0, none⟩ (.int .i64 0)).setCell ⟨w.heap.size + 3, 1, none⟩ (.slice none 0 0)).setCell ⟨w.heap.size + 4, 0, none⟩ (.slice none 0 0)).setCell ⟨w.heap.size + 4, 1, none⟩ (.slice none 0 0)) = W4 at hB4 d0 d1 d2 d3 hs4 hbk ⊢
    clear r0 r1 r2 r3 z0 z1 z2 z3
    simp [bodyPost, results, Tryz.results19, go_sem, d0, d1, d2, d3]
    exact ⟨none, 0, none, 0, none, 0, by simp, fun q hq => by omega, fun h => by omega, hs4, hB4⟩
  | some Hn =>
    have hir : IsRes (resOf p n F T G s A B C) p n p n Hn true := .inl ⟨hres, rfl, rfl, rfl⟩
    have HGR : Hid (graphB p n F T Hn = true) := res_ok hres
    go_enter Tryz.func19, Tryz.ntmps19
    go_wp2_with fail
    refine (implReweigh_any p ao n cap F T G so s scap A B C hn hs hwf _ (hr.below hD.bel (Nat.le_refl _)) (ha.below hD.bel (Nat.le_refl _)) p n Hn true hir).mono ?_
    rintro e w1 ⟨xo, xc, rfl, hrow, hb1⟩
    have hl4 := (hD.next hb1).rm.lt
    replace hD := (hD.next hb1).next (alloc_b w1 (.cells #[.int .i64 p, .slice xo n xc] 26))
    have hx0 : (w1.alloc (.cells #[.int .i64 p, .slice xo n xc] 26)).cell? ⟨w1.heap.size, 0, none⟩ = some (.int .i64 p) := by simp [go_sem]
    have hx1 : (w1.alloc (.cells #[.int .i64 p, .slice xo n xc] 26)).cell? ⟨w1.heap.size, 1, none⟩ = some (.slice xo n xc) := by simp [go_sem]
    have hxg : 0 < n → ∃ g, xo = some ⟨g, 0, none⟩ ∧ w.heap.size + 5 ≤ g ∧ g < w1.heap.size := fun h0 => by
      obtain ⟨g, e1, e2, e3⟩ := hrow 0 h0
      simp only [World.size_alloc] at e2
      exact ⟨g, e1, by omega, e3.lt⟩
    replace hrow := hrow.next (alloc_b w1 (.cells #[.int .i64 p, .slice xo n xc] 26))
    clear hb1
    have q0 := hD.g0
    have q1 := hD.g1
    have q2 := hD.h0
    have q3 := hD.h1
    go_wp2_with fail
    refine (implHierOk_any p ao n cap F T G po k pcap P eo m ecap L H hn hk hm _ (hr.below hD.bel (Nat.le_refl _)) (hp.below hD.bel (Nat.le_refl _)) (he.below hD.bel (Nat.le_refl _))).mono ?_
    rintro e w2 ⟨⟨x, rfl, hx⟩, hb2⟩
    replace hD := hD.next hb2
    replace hx0 := keep_cell hb2 (Nat.le_refl _) hx0
    replace hx1 := keep_cell hb2 (Nat.le_refl _) hx1
    replace hrow := hrow.next hb2
    have hs2 := hb2.size
    simp only [World.size_alloc] at hs2
    clear hb2 q0 q1 q2 q3
    cases x
    · obtain ⟨rfl, rfl, rfl, rfl⟩ : p' = 0 ∧ n' = 0 ∧ m' = 0 ∧ ok = false := by
        rcases hrec with h | h
        · have := hx.2 h.2.1.2.1; cases this
        · exact h.2
      clear hrec hx
      have r0 : w2.cell? ⟨w.heap.size + 3, 0, none⟩ = some (.int .i64 0) := hD.rg.cell (j := 0) (by omega)
      have r1 : w2.cell? ⟨w.heap.size + 3, 1, none⟩ = some (.slice none 0 0) := hD.rg.cell (j := 1) (by omega)
      have r2 : w2.cell? ⟨w.heap.size + 4, 0, none⟩ = some (.slice none 0 0) := hD.rm.cell (j := 0) (by omega)
      have r3 : w2.cell? ⟨w.heap.size + 4, 1, none⟩ = some (.slice none 0 0) := hD.rm.cell (j := 1) (by omega)
      have z0 := hD.rg.frozen 0
      have z1 := hD.rg.frozen 1
      have z2 := hD.rm.frozen 0
      have z3 := hD.rm.frozen 1
      have hl3 := hD.rg.lt
      have hl4 := hD.rm.lt
      go_wp2
      have hB4 := ret_below (ret_below hD.bel (s := w.heap.size + 3) (by omega) (.int .i64 0) (.slice none 0 0)) (s := w.heap.size + 4) (by omega) (.slice none 0 0) (.slice none 0 0)
      have d0 : ((((w2.setCell ⟨w.heap.size + 3, 0, none⟩ (.int .i64 0)).setCell ⟨w.heap.size + 3, 1, none⟩ (.slice none 0 0)).setCell ⟨w.heap.size + 4, 0, none⟩ (.slice none 0 0)).setCell ⟨w.heap.size + 4, 1, none⟩ (.slice none 0 0)).cell? ⟨w.heap.size + 3, 0, none⟩ = some (.int .i64 0) := by simp [go_sem, r0, r1, r2, r3]
      have d1 : ((((w2.setCell ⟨w.heap.size + 3, 0, none⟩ (.int .i64 0)).setCell ⟨w.heap.size + 3, 1, none⟩ (.slice none 0 0)).setCell ⟨w.heap.size + 4, 0, none⟩ (.slice none 0 0)).setCell ⟨w.heap.size + 4, 1, none⟩ (.slice none 0 0)).cell? ⟨w.heap.size + 3, 1, none⟩ = some (.slice none 0 0) := by simp [go_sem, r0, r1, r2, r3]
      have d2 : ((((w2.setCell ⟨w.heap.size + 3, 0, none⟩ (.int .i64 0)).setCell ⟨w.heap.size + 3, 1, none⟩ (.slice none 0 0)).setCell ⟨w.heap.size + 4, 0, none⟩ (.slice none 0 0)).setCell ⟨w.heap.size + 4, 1, none⟩ (.slice none 0 0)).cell? ⟨w.heap.size + 4, 0, none⟩ = some (.slice none 0 0) := by simp [go_sem, r0, r1, r2, r3]
      have d3 : ((((w2.setCell ⟨w.heap.size + 3, 0, none⟩ (.int .i64 0)).setCell ⟨w.heap.size + 3, 1, none⟩ (.slice none 0 0)).setCell ⟨w.heap.size + 4, 0, none⟩ (.slice none 0 0)).setCell ⟨w.heap.size + 4, 1, none⟩ (.slice none 0 0)).cell? ⟨w.heap.size + 4, 1, none⟩ = some (.slice none 0 0) := by simp [go_sem, r0, r1, r2, r3]
      have hs4 : w.heap.size + 3 ≤ ((((w2.setCell ⟨w.heap.size + 3, 0, none⟩ (.int .i64 0)).setCell ⟨w.heap.size + 3, 1, none⟩ (.slice none 0 0)).setCell ⟨w.heap.size + 4, 0, none⟩ (.slice none 0 0)).setCell ⟨w.heap.size + 4, 1, none⟩ (.slice none 0 0)).heap.size := by have hq4 := hl4; simp [World.setCell] at hq4 ⊢; omega
      have hbk : ∀ q, q ≠ w.heap.size + 3 → q ≠ w.heap.size + 4 → ((((w2.setCell ⟨w.heap.size + 3, 0, none⟩ (.int .i64 0)).setCell ⟨w.heap.size + 3, 1, none⟩ (.slice none 0 0)).setCell ⟨w.heap.size + 4, 0, none⟩ (.slice none 0 0)).setCell ⟨w.heap.size + 4, 1, none⟩ (.slice none 0 0)).heap[q]? = w2.heap[q]? := fun q hq hq2 => (ret_block _ _ hq2).trans (ret_block _ _ hq)
      generalize ((((w2.setCell ⟨w.heap.size + 3, 0, none⟩ (.int .i64 0)).setCell ⟨w.heap.size + 3, 1, none⟩ (.slice none 0 0)).setCell ⟨w.heap.size + 4, 0, none⟩ (.slice none 0 0)).setCell ⟨w.heap.size + 4, 1, none⟩ (.slice none 0 0)) = W4 at hB4 d0 d1 d2 d3 hs4 hbk ⊢
      clear r0 r1 r2 r3 z0 z1 z2 z3
      simp [bodyPost, results, Tryz.results19, go_sem, d0, d1, d2, d3]
      exact ⟨none, 0, none, 0, none, 0, by simp, fun q hq => by omega, fun h => by omega, hs4, hB4⟩
    have HRC : Hid (HOk p n F T G k P m L H) := hx.1 rfl
    clear hx
    obtain ⟨hlen, heq⟩ := hok_len HRC.out
    have hE := cenv_of HRC.out.1
    have hE2 := cenv_of (ord_w HRC.out.1 HGR.out)
    rw [← hlen] at hE hE2
    have HE : Hid (CEnv k n m F T G P (Lf (lstF p n F T P)) (Hf (lstF p n F T P)) ∧ CEnv k n m F T Hn P (Lf (lstF p n F T P)) (Hf (lstF p n F T P))) := ⟨hE, hE2⟩
    have HC : Hid (cusT p n F T G P = runT (w0U n F T G P (Lf (lstF p n F T P)) (Hf (lstF p n F T P)), w0D n F T G P (Lf (lstF p n F T P)) (Hf (lstF p n F T P))) (allT m (Lf (lstF p n F T P)) (Hf (lstF p n F T P)) m)) := by
      show _ = _
      unfold cusT
      rw [← hlen]
    have HC2 : Hid (cusT p n F T Hn P = runT (w0U n F T Hn P (Lf (lstF p n F T P)) (Hf (lstF p n F T P)), w0D n F T Hn P (Lf (lstF p n F T P)) (Hf (lstF p n F T P))) (allT m (Lf (lstF p n F T P)) (Hf (lstF p n F T P)) m)) := by
      show _ = _
      unfold cusT
      rw [← hlen]
    have hok : okR k P = true := by
      have h1 := ordB_parts HRC.out.1
      simp [okR, h1.2.2.2]
      omega
    have he2 : ERow w eo m (Lf (lstF p n F T P)) (Hf (lstF p n F T P)) := he.congr (fun i hi => (heq i hi).1) (fun i hi => (heq i hi).2)
    have hm3 := hE.m1000
    clear hE hE2 heq hlen
    have q2 := hD.h0
    have q3 := hD.h1
    go_wp2_with fail
    refine (newWorkroom_any po k pcap P eo m ecap _ _ hk hm hok HE.out.1.wf _ (hp.below hD.bel (Nat.le_refl _)) (he2.below hD.bel (Nat.le_refl _))).mono ?_
    rintro e w3 ⟨b, g, rcap, bm, bU, bV, rfl, R3⟩
    have he3 := he2.below hD.bel (Nat.le_refl _)
    replace hD := hD.next R3.bel
    replace hx0 := keep_cell R3.bel (Nat.le_refl _) hx0
    replace hx1 := keep_cell R3.bel (Nat.le_refl _) hx1
    replace hrow := hrow.next R3.bel
    have hge := R3.ge
    clear q2 q3
    have q0 := hD.g0
    have q1 := hD.g1
    go_wp2_with fail
    refine (customize_any w2 k n m p ao cap F T G P _ _ eo ecap b g rcap bm bU bV _ _ HE.out.1 (fun h0 a e => by
      obtain ⟨b', o', e', c0', _⟩ := hr 0 h0
      rw [e] at e'
      cases e'
      have := lt_of_cell c0'
      simp only
      omega) _ he3 (hr.below hD.bel (Nat.le_refl _)) R3).mono ?_
    rw [← HC.out]
    rintro e w4 ⟨⟨v4, rfl⟩, R4, T4⟩
    replace hD := hD.turn T4 (by omega) (by omega)
    replace hx0 := T4.cell (by simp; omega) hx0
    replace hx1 := T4.cell (by simp; omega) hx1
    have hao2 : 0 < n → ∀ a, xo = some a → a.block ≠ bU ∧ a.block ≠ bV := fun h0 a e => by
      obtain ⟨g', e1, e2, e3⟩ := hxg h0
      rw [e1] at e
      cases e
      simp only
      omega
    replace hrow := hrow.turns T4 (fun h0 a e => by have := hao2 h0 a e; simp; omega)
    clear T4 R3 q0 q1
    have R5 := R4.next (drew_b w4)
    have hD1 := hD.next (drew_b w4)
    have hrow1 := hrow.next (drew_b w4)
    have y0 := keep_cell (drew_b w4) (Nat.le_refl _) hx0
    have y1 := keep_cell (drew_b w4) (Nat.le_refl _) hx1
    have c3 : w4.drew.cell? ⟨b, 3, none⟩ = some (.slice (some ⟨bU, 0, none⟩) m m) := R5.cell rfl
    have c4 : w4.drew.cell? ⟨b, 4, none⟩ = some (.slice (some ⟨bV, 0, none⟩) m m) := R5.cell rfl
    have q4 := hD1.m0
    have q5 := hD1.m1
    clear hD hrow hx0 hx1 R4
    go_wp2_with fail
    go_region_held3 (fun X : World => X.cell? ⟨b, 3, none⟩ = some (.slice (some ⟨bU, 0, none⟩) m m) ∧ X.cell? ⟨b, 4, none⟩ = some (.slice (some ⟨bV, 0, none⟩) m m) ∧ X.cell? ⟨w.heap.size + 2, 0, none⟩ = some (.slice uo u ucap) ∧ X.cell? ⟨w.heap.size + 2, 1, none⟩ = some (.slice vo v vcap))
      (first | (go_split_ands; refine ⟨?_, ?_, ?_, ?_⟩ <;> exact keep_cell hb5 (Nat.le_refl _) (by assumption)) | (refine ⟨?_, ?_, ?_, ?_⟩ <;> assumption))
      (first | (go_at_call 58; refine (sameMetric_any _ m m _ _ m m _ uo u ucap U vo v vcap V hm hm hu hv _ R5.up.row R5.dn.row (hU.below hD1.bel (Nat.le_refl _)) (hV.below hD1.bel (Nat.le_refl _))).mono ?_; rintro e w5 ⟨⟨x, rfl, hx⟩, hb5⟩))
    replace hD1 := hD1.next hb5
    replace hrow1 := hrow1.next hb5
    replace y0 := keep_cell hb5 (Nat.le_refl _) y0
    replace y1 := keep_cell hb5 (Nat.le_refl _) y1
    replace R5 := R5.next hb5
    clear hb5 c3 c4 q4 q5
    cases x
    · obtain ⟨rfl, rfl, rfl, rfl⟩ : p' = 0 ∧ n' = 0 ∧ m' = 0 ∧ ok = false := by
        rcases hrec with h | h
        · have := hx.2 h.2.1.2.2; cases this
        · exact h.2
      clear hrec hx
      have r0 : w5.cell? ⟨w.heap.size + 3, 0, none⟩ = some (.int .i64 0) := hD1.rg.cell (j := 0) (by omega)
      have r1 : w5.cell? ⟨w.heap.size + 3, 1, none⟩ = some (.slice none 0 0) := hD1.rg.cell (j := 1) (by omega)
      have r2 : w5.cell? ⟨w.heap.size + 4, 0, none⟩ = some (.slice none 0 0) := hD1.rm.cell (j := 0) (by omega)
      have r3 : w5.cell? ⟨w.heap.size + 4, 1, none⟩ = some (.slice none 0 0) := hD1.rm.cell (j := 1) (by omega)
      have z0 := hD1.rg.frozen 0
      have z1 := hD1.rg.frozen 1
      have z2 := hD1.rm.frozen 0
      have z3 := hD1.rm.frozen 1
      have hl3 := hD1.rg.lt
      have hl4 := hD1.rm.lt
      go_wp2
      have hB4 := ret_below (ret_below hD1.bel (s := w.heap.size + 3) (by omega) (.int .i64 0) (.slice none 0 0)) (s := w.heap.size + 4) (by omega) (.slice none 0 0) (.slice none 0 0)
      have d0 : ((((w5.setCell ⟨w.heap.size + 3, 0, none⟩ (.int .i64 0)).setCell ⟨w.heap.size + 3, 1, none⟩ (.slice none 0 0)).setCell ⟨w.heap.size + 4, 0, none⟩ (.slice none 0 0)).setCell ⟨w.heap.size + 4, 1, none⟩ (.slice none 0 0)).cell? ⟨w.heap.size + 3, 0, none⟩ = some (.int .i64 0) := by simp [go_sem, r0, r1, r2, r3]
      have d1 : ((((w5.setCell ⟨w.heap.size + 3, 0, none⟩ (.int .i64 0)).setCell ⟨w.heap.size + 3, 1, none⟩ (.slice none 0 0)).setCell ⟨w.heap.size + 4, 0, none⟩ (.slice none 0 0)).setCell ⟨w.heap.size + 4, 1, none⟩ (.slice none 0 0)).cell? ⟨w.heap.size + 3, 1, none⟩ = some (.slice none 0 0) := by simp [go_sem, r0, r1, r2, r3]
      have d2 : ((((w5.setCell ⟨w.heap.size + 3, 0, none⟩ (.int .i64 0)).setCell ⟨w.heap.size + 3, 1, none⟩ (.slice none 0 0)).setCell ⟨w.heap.size + 4, 0, none⟩ (.slice none 0 0)).setCell ⟨w.heap.size + 4, 1, none⟩ (.slice none 0 0)).cell? ⟨w.heap.size + 4, 0, none⟩ = some (.slice none 0 0) := by simp [go_sem, r0, r1, r2, r3]
      have d3 : ((((w5.setCell ⟨w.heap.size + 3, 0, none⟩ (.int .i64 0)).setCell ⟨w.heap.size + 3, 1, none⟩ (.slice none 0 0)).setCell ⟨w.heap.size + 4, 0, none⟩ (.slice none 0 0)).setCell ⟨w.heap.size + 4, 1, none⟩ (.slice none 0 0)).cell? ⟨w.heap.size + 4, 1, none⟩ = some (.slice none 0 0) := by simp [go_sem, r0, r1, r2, r3]
      have hs4 : w.heap.size + 3 ≤ ((((w5.setCell ⟨w.heap.size + 3, 0, none⟩ (.int .i64 0)).setCell ⟨w.heap.size + 3, 1, none⟩ (.slice none 0 0)).setCell ⟨w.heap.size + 4, 0, none⟩ (.slice none 0 0)).setCell ⟨w.heap.size + 4, 1, none⟩ (.slice none 0 0)).heap.size := by have hq4 := hl4; simp [World.setCell] at hq4 ⊢; omega
      have hbk : ∀ q, q ≠ w.heap.size + 3 → q ≠ w.heap.size + 4 → ((((w5.setCell ⟨w.heap.size + 3, 0, none⟩ (.int .i64 0)).setCell ⟨w.heap.size + 3, 1, none⟩ (.slice none 0 0)).setCell ⟨w.heap.size + 4, 0, none⟩ (.slice none 0 0)).setCell ⟨w.heap.size + 4, 1, none⟩ (.slice none 0 0)).heap[q]? = w5.heap[q]? := fun q hq hq2 => (ret_block _ _ hq2).trans (ret_block _ _ hq)
      generalize ((((w5.setCell ⟨w.heap.size + 3, 0, none⟩ (.int .i64 0)).setCell ⟨w.heap.size + 3, 1, none⟩ (.slice none 0 0)).setCell ⟨w.heap.size + 4, 0, none⟩ (.slice none 0 0)).setCell ⟨w.heap.size + 4, 1, none⟩ (.slice none 0 0)) = W4 at hB4 d0 d1 d2 d3 hs4 hbk ⊢
      clear r0 r1 r2 r3 z0 z1 z2 z3
      simp [bodyPost, results, Tryz.results19, go_sem, d0, d1, d2, d3]
      exact ⟨none, 0, none, 0, none, 0, by simp, fun q hq => by omega, fun h => by omega, hs4, hB4⟩
    obtain ⟨rfl, rfl, rfl, hcus, rfl⟩ : p' = p ∧ n' = n ∧ m' = m ∧ cusT p n F T Hn P = (CU, CD) ∧ ok = true := by
      rcases hrec with h | h
      · have e1 := h.1
        rw [hres] at e1
        simp only [Option.some.injEq] at e1
        rw [e1]
        exact ⟨h.2.2.1, h.2.2.2.1, h.2.2.2.2.1, h.2.2.2.2.2.1, h.2.2.2.2.2.2⟩
      · exact absurd ⟨by rw [hres]; simp, rfl, HRC.out, hx.1 rfl⟩ h.1
    have HHn : Hid (H' = Hn) := by
      rcases hrec with h | h
      · have e1 := h.1
        rw [hres] at e1
        simp only [Option.some.injEq] at e1
        exact e1.symm
      · exact absurd h.2.2.2.2 (by simp)
    have HC3 := HC2.out
    rw [hcus] at HC3
    replace HC3 : Hid (_ = _) := HC3
    clear hrec hx hcus HC2
    go_wp2_with fail
    refine (customize_any w2 k n' m' p' xo xc F T Hn P _ _ eo ecap b g rcap bm bU bV _ _ HE.out.2 hao2 _ he3 hrow1.row R5).mono ?_
    rw [← HC3.out]
    rintro e w6 ⟨⟨v6, rfl⟩, R6, T6⟩
    replace hD1 := hD1.turn T6 (by omega) (by omega)
    replace y0 := T6.cell (by simp; omega) y0
    replace y1 := T6.cell (by simp; omega) y1
    replace hrow1 := hrow1.turns T6 (fun h0 a e => by have := hao2 h0 a e; simp; omega)
    clear T6 R5
    go_wp2_with fail
    replace hD1 := hD1.next (drew_b w6)
    replace hrow1 := hrow1.next (drew_b w6)
    replace y0 := keep_cell (drew_b w6) (Nat.le_refl _) y0
    replace y1 := keep_cell (drew_b w6) (Nat.le_refl _) y1
    replace R6 := R6.next (drew_b w6)
    go_region_held3 (fun X : World => X.cell? ⟨w1.heap.size, 0, none⟩ = some (.int .i64 p') ∧ X.cell? ⟨w1.heap.size, 1, none⟩ = some (.slice xo n' xc))
      (first | (go_split_ands; refine ⟨?_, ?_⟩ <;> exact keep_cell hb7 (Nat.le_refl _) (by assumption)) | (go_split_ands; refine ⟨?_, ?_⟩ <;> exact cell_ret (by assumption) (by omega)) | (refine ⟨?_, ?_⟩ <;> assumption))
      (first | (go_at_call 31; refine (handOut_any w2 k m' P _ _ eo ecap b g rcap bm bU bV CU CD hm3 _ R6).mono ?_; rintro e w7 ⟨kb, lb, rfl, g1, g2, hne, i1, i2, hsz, hb7⟩; have hD7 := hD1.next hb7; have hrow7 := hrow1.next hb7; have r0 : w7.cell? ⟨w.heap.size + 3, 0, none⟩ = some (.int .i64 0) := hD7.rg.cell (j := 0) (by omega); have r1 : w7.cell? ⟨w.heap.size + 3, 1, none⟩ = some (.slice none 0 0) := hD7.rg.cell (j := 1) (by omega); have r2 : w7.cell? ⟨w.heap.size + 4, 0, none⟩ = some (.slice none 0 0) := hD7.rm.cell (j := 0) (by omega); have r3 : w7.cell? ⟨w.heap.size + 4, 1, none⟩ = some (.slice none 0 0) := hD7.rm.cell (j := 1) (by omega); have z0 := hD7.rg.frozen 0; have z1 := hD7.rg.frozen 1; have z2 := hD7.rm.frozen 0; have z3 := hD7.rm.frozen 1; have hl3 := hD7.rg.lt))
    clear y0 y1
    go_wp2
    have hB4 := ret_below (ret_below hD7.bel (s := w.heap.size + 3) (by omega) (.int .i64 p') (.slice xo n' xc)) (s := w.heap.size + 4) (by omega) (.slice (some ⟨kb, 0, none⟩) m' m') (.slice (some ⟨lb, 0, none⟩) m' m')
    have d0 : ((((w7.setCell ⟨w.heap.size + 3, 0, none⟩ (.int .i64 p')).setCell ⟨w.heap.size + 3, 1, none⟩ (.slice xo n' xc)).setCell ⟨w.heap.size + 4, 0, none⟩ (.slice (some ⟨kb, 0, none⟩) m' m')).setCell ⟨w.heap.size + 4, 1, none⟩ (.slice (some ⟨lb, 0, none⟩) m' m')).cell? ⟨w.heap.size + 3, 0, none⟩ = some (.int .i64 p') := by simp [go_sem, r0, r1, r2, r3]
    have d1 : ((((w7.setCell ⟨w.heap.size + 3, 0, none⟩ (.int .i64 p')).setCell ⟨w.heap.size + 3, 1, none⟩ (.slice xo n' xc)).setCell ⟨w.heap.size + 4, 0, none⟩ (.slice (some ⟨kb, 0, none⟩) m' m')).setCell ⟨w.heap.size + 4, 1, none⟩ (.slice (some ⟨lb, 0, none⟩) m' m')).cell? ⟨w.heap.size + 3, 1, none⟩ = some (.slice xo n' xc) := by simp [go_sem, r0, r1, r2, r3]
    have d2 : ((((w7.setCell ⟨w.heap.size + 3, 0, none⟩ (.int .i64 p')).setCell ⟨w.heap.size + 3, 1, none⟩ (.slice xo n' xc)).setCell ⟨w.heap.size + 4, 0, none⟩ (.slice (some ⟨kb, 0, none⟩) m' m')).setCell ⟨w.heap.size + 4, 1, none⟩ (.slice (some ⟨lb, 0, none⟩) m' m')).cell? ⟨w.heap.size + 4, 0, none⟩ = some (.slice (some ⟨kb, 0, none⟩) m' m') := by simp [go_sem, r0, r1, r2, r3]
    have d3 : ((((w7.setCell ⟨w.heap.size + 3, 0, none⟩ (.int .i64 p')).setCell ⟨w.heap.size + 3, 1, none⟩ (.slice xo n' xc)).setCell ⟨w.heap.size + 4, 0, none⟩ (.slice (some ⟨kb, 0, none⟩) m' m')).setCell ⟨w.heap.size + 4, 1, none⟩ (.slice (some ⟨lb, 0, none⟩) m' m')).cell? ⟨w.heap.size + 4, 1, none⟩ = some (.slice (some ⟨lb, 0, none⟩) m' m') := by simp [go_sem, r0, r1, r2, r3]
    have hs4 : w.heap.size + 3 ≤ ((((w7.setCell ⟨w.heap.size + 3, 0, none⟩ (.int .i64 p')).setCell ⟨w.heap.size + 3, 1, none⟩ (.slice xo n' xc)).setCell ⟨w.heap.size + 4, 0, none⟩ (.slice (some ⟨kb, 0, none⟩) m' m')).setCell ⟨w.heap.size + 4, 1, none⟩ (.slice (some ⟨lb, 0, none⟩) m' m')).heap.size := by have hq4 := hD7.rm.lt; simp [World.setCell] at hq4 ⊢; omega
    have hbk : ∀ q, q ≠ w.heap.size + 3 → q ≠ w.heap.size + 4 → ((((w7.setCell ⟨w.heap.size + 3, 0, none⟩ (.int .i64 p')).setCell ⟨w.heap.size + 3, 1, none⟩ (.slice xo n' xc)).setCell ⟨w.heap.size + 4, 0, none⟩ (.slice (some ⟨kb, 0, none⟩) m' m')).setCell ⟨w.heap.size + 4, 1, none⟩ (.slice (some ⟨lb, 0, none⟩) m' m')).heap[q]? = w7.heap[q]? := fun q hq hq2 => (ret_block _ _ hq2).trans (ret_block _ _ hq)
    generalize ((((w7.setCell ⟨w.heap.size + 3, 0, none⟩ (.int .i64 p')).setCell ⟨w.heap.size + 3, 1, none⟩ (.slice xo n' xc)).setCell ⟨w.heap.size + 4, 0, none⟩ (.slice (some ⟨kb, 0, none⟩) m' m')).setCell ⟨w.heap.size + 4, 1, none⟩ (.slice (some ⟨lb, 0, none⟩) m' m')) = W4 at hB4 d0 d1 d2 d3 hs4 hbk ⊢
    clear r0 r1 r2 r3 z0 z1 z2 z3
    simp [bodyPost, results, Tryz.results19, go_sem, d0, d1, d2, d3]
    have hd1 := hD1.rm.lt
    exact ⟨xo, xc, some ⟨kb, 0, none⟩, m', some ⟨lb, 0, none⟩, m', by simp, fun q hq => by
      obtain ⟨g, e1, e2, hh⟩ := hrow7 q hq
      simp only [World.size_alloc] at e2
      rw [HHn.out]
      exact ⟨g, e1, by omega, hh.of_block (hbk g (by omega) (by omega))⟩, fun h0 => ⟨kb, lb, rfl, rfl, by omega, by omega, hne, i1.of_block (hbk kb (by omega) (by omega)), i2.of_block (hbk lb (by omega) (by omega))⟩, hs4, hB4⟩

end Go.Proofs.YteibbknpcgcjjabGreat
