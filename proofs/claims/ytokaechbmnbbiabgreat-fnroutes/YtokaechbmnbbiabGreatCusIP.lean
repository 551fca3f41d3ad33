/-
  Customize, the document's and the program's, at every map and every hierarchy.
-/
import Derived.Test.YtokaechbmnbbiabGreatPack10
import Derived.Test.YtokaechbmnbbiabGreatRoomCP
import Derived.Test.YtokaechbmnbbiabGreatPack13
set_option linter.unusedVariables false
set_option linter.unusedSimpArgs false
namespace Go.Proofs.YtokaechbmnbbiabGreat
open Go.RowKit Go.Deep Go.Joins Go.Maps
attribute [local go_sem ↓] Go.wp_at_zero Go.wp_at_succ

set_option maxHeartbeats 4000000 in
theorem implCustomize_any (p : Int) (ao : Option Addr) (n cap : Nat) (F T G : Nat → Int) (po : Option Addr) (k pcap : Nat) (P : Nat → Int) (eo : Option Addr) (m ecap : Nat) (L H : Nat → Int) (hn : n ≤ 1048576) (hk : k ≤ 1048576) (hm : m ≤ 1048576) (w : World) (hr : Row w ao n F T G) (hp : IRow w po k P) (he : ERow w eo m L H) :
    Calls Tryz.prog 7 #[.agg #[.int .i64 p, .slice ao n cap], .agg #[.slice po k pcap, .slice eo m ecap]] w fun e w' => MAns w w' e (lenM p n F T G k P m L H) (cusT p n F T G P).1 (cusT p n F T G P).2 := by
  have hD := b3_new w (.int .i64 p) (.slice ao n cap) (.slice po k pcap) (.slice eo m ecap)
  by_cases hH : HOk p n F T G k P m L H
  rotate_left
  · rw [lenM_no hH]
    have HN : Hid (¬ HOk p n F T G k P m L H) := hH
    clear hH
    go_enter Tryz.func7, Tryz.ntmps7
    go_wp2_with fail
    refine (implHierOk_any p ao n cap F T G po k pcap P eo m ecap L H hn hk hm _ (hr.below hD.bel (Nat.le_refl _)) (hp.below hD.bel (Nat.le_refl _)) (he.below hD.bel (Nat.le_refl _))).mono ?_
    rintro e w1 ⟨⟨b, rfl, hb⟩, hb1⟩
    obtain rfl : b = false := by
      cases b
      · rfl
      · exact absurd (hb.1 rfl) HN.out
    clear hb
    replace hD := hD.next hb1
    clear hb1
    have r0 : w1.cell? ⟨w.heap.size + 2, 0, none⟩ = some (.slice none 0 0) := hD.res.cell (j := 0) (by omega)
    have r1 : w1.cell? ⟨w.heap.size + 2, 1, none⟩ = some (.slice none 0 0) := hD.res.cell (j := 1) (by omega)
    have z0 := hD.res.frozen 0
    have z1 := hD.res.frozen 1
    have hlr := hD.res.lt
    go_wp2
    have hB4 := ret_below hD.bel (s := w.heap.size + 2) (by omega) (.slice none 0 0) (.slice none 0 0)
    have d0 : ((w1.setCell ⟨w.heap.size + 2, 0, none⟩ (.slice none 0 0)).setCell ⟨w.heap.size + 2, 1, none⟩ (.slice none 0 0)).cell? ⟨w.heap.size + 2, 0, none⟩ = some (.slice none 0 0) := by simp [go_sem, r0, r1]
    have d1 : ((w1.setCell ⟨w.heap.size + 2, 0, none⟩ (.slice none 0 0)).setCell ⟨w.heap.size + 2, 1, none⟩ (.slice none 0 0)).cell? ⟨w.heap.size + 2, 1, none⟩ = some (.slice none 0 0) := by simp [go_sem, r0, r1]
    have hs4 : w.heap.size + 2 ≤ ((w1.setCell ⟨w.heap.size + 2, 0, none⟩ (.slice none 0 0)).setCell ⟨w.heap.size + 2, 1, none⟩ (.slice none 0 0)).heap.size := by simp [World.setCell]; omega
    have hbk : ∀ q, q ≠ w.heap.size + 2 → ((w1.setCell ⟨w.heap.size + 2, 0, none⟩ (.slice none 0 0)).setCell ⟨w.heap.size + 2, 1, none⟩ (.slice none 0 0)).heap[q]? = w1.heap[q]? := fun q hq => ret_block (.slice none 0 0) (.slice none 0 0) hq
    generalize ((w1.setCell ⟨w.heap.size + 2, 0, none⟩ (.slice none 0 0)).setCell ⟨w.heap.size + 2, 1, none⟩ (.slice none 0 0)) = W4 at hB4 d0 d1 hs4 hbk ⊢
    clear r0 r1 z0 z1
    simp [bodyPost, results, Tryz.results7, go_sem, d0, d1]
    exact ⟨none, 0, none, 0, by simp, fun h => by omega, hs4, hB4⟩
  rw [lenM_yes hH]
  obtain ⟨hlen, heq⟩ := hok_len hH
  have HH : Hid (HOk p n F T G k P m L H) := hH
  have hE := cenv_of hH.1
  have hga : arcsB p F T G n = true := (graphB_arcs (ordB_parts hH.1).2.1).2
  have hok : okR k P = true := by
    have h1 := ordB_parts hH.1
    simp [okR, h1.2.2.2]
    omega
  rw [← hlen] at hE
  have HC : Hid (cusT p n F T G P = runT (w0U n F T G P (Lf (lstF p n F T P)) (Hf (lstF p n F T P)), w0D n F T G P (Lf (lstF p n F T P)) (Hf (lstF p n F T P))) (allT m (Lf (lstF p n F T P)) (Hf (lstF p n F T P)) m)) := by
    show _ = _
    unfold cusT
    rw [← hlen]
  have HE : Hid (CEnv k n m F T G P (Lf (lstF p n F T P)) (Hf (lstF p n F T P)) ∧ arcsB p F T G n = true) := ⟨hE, hga⟩
  have he2 : ERow w eo m (Lf (lstF p n F T P)) (Hf (lstF p n F T P)) := he.congr (fun i hi => (heq i hi).1) (fun i hi => (heq i hi).2)
  have hm3 := hE.m1000
  clear hH heq hE hga hlen
  obtain ⟨⟨CU, CD⟩, hcu⟩ : ∃ c, cusT p n F T G P = c := ⟨_, rfl⟩
  rw [hcu] at HC ⊢
  clear hcu
  go_enter Tryz.func7, Tryz.ntmps7
  go_wp2_with fail
  refine (implHierOk_any p ao n cap F T G po k pcap P eo m ecap L H hn hk hm _ (hr.below hD.bel (Nat.le_refl _)) (hp.below hD.bel (Nat.le_refl _)) (he.below hD.bel (Nat.le_refl _))).mono ?_
  rintro e w1 ⟨⟨b, rfl, hb⟩, hb1⟩
  obtain rfl : b = true := hb.2 HH.out
  clear hb
  replace hD := hD.next hb1
  clear hb1
  have q0 := hD.g0
  have q1 := hD.g1
  have q2 := hD.h0
  have q3 := hD.h1
  go_wp2_with fail
  refine (newWorkroom_any po k pcap P eo m ecap _ _ hk hm hok HE.out.1.wf _ (hp.below hD.bel (Nat.le_refl _)) (he2.below hD.bel (Nat.le_refl _))).mono ?_
  rintro e w2 ⟨b, g, rcap, bm, bU, bV, rfl, R2⟩
  have hs1 : w.heap.size + 3 ≤ w1.heap.size := by have := hD.res.lt; omega
  have hbel := hD.bel
  have hD2 := hD.next R2.bel
  have hgU := R2.ge
  have he1 := he2.below hbel (Nat.le_refl _)
  clear q0 q1 q2 q3 hD
  have q0 := hD2.g0
  have q1 := hD2.g1
  have hr1 := hr.below hD2.bel (Nat.le_refl _)
  have hao : 0 < n → ∀ a, ao = some a → a.block ≠ bU ∧ a.block ≠ bV := fun h0 a e => by
    obtain ⟨b', o', e', c0', _⟩ := hr 0 h0
    rw [e] at e'
    cases e'
    have := lt_of_cell c0'
    have := hbel.size
    simp only
    omega
  go_wp2_with fail
  refine (customize_any w1 k n m p ao cap F T G P _ _ eo ecap b g rcap bm bU bV _ _ HE.out.1 hao _ he1 hr1 R2).mono ?_
  rw [← HC.out]
  rintro e w3 ⟨⟨v3, rfl⟩, R3, T3⟩
  have hD3 : B3 w (.int .i64 p) (.slice ao n cap) (.slice po k pcap) (.slice eo m ecap) w3 := ⟨hbel.trans (R3.bel.mono hbel.size), T3.cell (by simp; omega) hD2.g0, T3.cell (by simp; omega) hD2.g1, T3.cell (by simp; omega) hD2.h0, T3.cell (by simp; omega) hD2.h1, hD2.res.of_block (T3.block _ hD2.res.lt (by simp; omega))⟩
  clear T3 R2 hD2 q0 q1
  go_wp2_with fail
  refine (handOut_any w1 k m P _ _ eo ecap b g rcap bm bU bV _ _ hm3 _ R3).mono ?_
  rintro e w4 ⟨c, d, rfl, hc, hd, hne, iU, iV, hsz, hb4⟩
  have hs3 := hD3.res.lt
  replace hD3 := hD3.next hb4
  clear hb4
  have r0 : w4.cell? ⟨w.heap.size + 2, 0, none⟩ = some (.slice none 0 0) := hD3.res.cell (j := 0) (by omega)
  have r1 : w4.cell? ⟨w.heap.size + 2, 1, none⟩ = some (.slice none 0 0) := hD3.res.cell (j := 1) (by omega)
  have z0 := hD3.res.frozen 0
  have z1 := hD3.res.frozen 1
  have hlr := hD3.res.lt
  go_wp2
  have hB4 := ret_below hD3.bel (s := w.heap.size + 2) (by omega) (.slice (some ⟨c, 0, none⟩) m m) (.slice (some ⟨d, 0, none⟩) m m)
  have d0 : ((w4.setCell ⟨w.heap.size + 2, 0, none⟩ (.slice (some ⟨c, 0, none⟩) m m)).setCell ⟨w.heap.size + 2, 1, none⟩ (.slice (some ⟨d, 0, none⟩) m m)).cell? ⟨w.heap.size + 2, 0, none⟩ = some (.slice (some ⟨c, 0, none⟩) m m) := by simp [go_sem, r0, r1]
  have d1 : ((w4.setCell ⟨w.heap.size + 2, 0, none⟩ (.slice (some ⟨c, 0, none⟩) m m)).setCell ⟨w.heap.size + 2, 1, none⟩ (.slice (some ⟨d, 0, none⟩) m m)).cell? ⟨w.heap.size + 2, 1, none⟩ = some (.slice (some ⟨d, 0, none⟩) m m) := by simp [go_sem, r0, r1]
  have hs4 : w.heap.size + 2 ≤ ((w4.setCell ⟨w.heap.size + 2, 0, none⟩ (.slice (some ⟨c, 0, none⟩) m m)).setCell ⟨w.heap.size + 2, 1, none⟩ (.slice (some ⟨d, 0, none⟩) m m)).heap.size := by simp [World.setCell]; omega
  have hbk : ∀ q, q ≠ w.heap.size + 2 → ((w4.setCell ⟨w.heap.size + 2, 0, none⟩ (.slice (some ⟨c, 0, none⟩) m m)).setCell ⟨w.heap.size + 2, 1, none⟩ (.slice (some ⟨d, 0, none⟩) m m)).heap[q]? = w4.heap[q]? := fun q hq => ret_block (.slice (some ⟨c, 0, none⟩) m m) (.slice (some ⟨d, 0, none⟩) m m) hq
  generalize ((w4.setCell ⟨w.heap.size + 2, 0, none⟩ (.slice (some ⟨c, 0, none⟩) m m)).setCell ⟨w.heap.size + 2, 1, none⟩ (.slice (some ⟨d, 0, none⟩) m m)) = W4 at hB4 d0 d1 hs4 hbk ⊢
  clear r0 r1 z0 z1
  simp [bodyPost, results, Tryz.results7, go_sem, d0, d1]
  exact ⟨some ⟨c, 0, none⟩, m, some ⟨d, 0, none⟩, m, by simp, fun h0 => ⟨c, d, rfl, rfl, by omega, by omega, hne, iU.of_block (hbk c (by omega)), iV.of_block (hbk d (by omega))⟩, hs4, hB4⟩

end Go.Proofs.YtokaechbmnbbiabGreat
