/-
  Helpers: CusI, ApM.
-/
import Derived.Test.YthmpliljffmmcaaGreatDoorPack1
import Derived.Test.YthmpliljffmmcaaGreatDoorPack20
import Derived.Test.YthmpliljffmmcaaGreatDoorPack22
import Derived.Test.YthmpliljffmmcaaGreatDoorPack23
import Derived.Test.YthmpliljffmmcaaGreatDoorPack11
import Derived.Test.YthmpliljffmmcaaGreatDoorPack18
import Derived.Test.YthmpliljffmmcaaGreatDoorPack17
set_option linter.unusedVariables false
set_option linter.unusedSimpArgs false
namespace Go.Proofs.YthmpliljffmmcaaGreatDoor
section
open Go.RowKit Go.Deep Go.Joins Go.Maps
attribute [local go_sem ↓] Go.wp_at_zero Go.wp_at_succ
set_option maxHeartbeats 4000000 in
theorem implCustomize_any (p : Int) (ao : Option Addr) (n cap : Nat) (F T G : Nat → Int) (po : Option Addr) (k pcap : Nat) (P : Nat → Int) (eo : Option Addr) (m ecap : Nat) (L H : Nat → Int) (hn : n ≤ 1048576) (hk : k ≤ 1048576) (hm : m ≤ 1048576) (w : World) (hr : Row w ao n F T G) (hp : IRow w po k P) (he : ERow w eo m L H) :
    Calls Tryz.prog 136 #[.agg #[.int .i64 p, .slice ao n cap], .agg #[.slice po k pcap, .slice eo m ecap]] w fun e w' => MAns w w' e (lenM p n F T G k P m L H) (cusT p n F T G P).1 (cusT p n F T G P).2 := by
  have hD := b3_new w (.int .i64 p) (.slice ao n cap) (.slice po k pcap) (.slice eo m ecap)
  by_cases hH : HOk p n F T G k P m L H
  rotate_left
  · rw [lenM_no hH]
    have HN : Hid (¬ HOk p n F T G k P m L H) := hH
    clear hH
    go_enter Tryz.func136, Tryz.ntmps136
    go_wp2_with fail
    refine (implHierOk_any p ao n cap F T G po k pcap P eo m ecap L H hn hk hm _ (hr.below hD.bel nl) (hp.below hD.bel nl) (he.below hD.bel nl)).mono ?_
    rintro e w1 ⟨⟨b, rfl, hb⟩, hb1⟩
    obtain rfl : b = false := by
      cases b
      · rfl
      · exact absurd (hb.1 rfl) HN.out
    clear hb
    replace hD := hD.next hb1
    clear hb1
    have r0 : w1.cell? ⟨w.heap.size + 2, 0, none⟩ = some (.slice none 0 0) := hD.res.cell (j := 0) (by omega)
    have r1 : w1.cell? ⟨w.heap.size + 2, 1, none⟩ = some (.slice none 0 0) := hD.res.cell (j := 1) (by omega)
    obtain ⟨z0, z1⟩ := hD.res.z2
    have hlr := hD.res.lt
    go_wp2
    have hB4 := ret_below hD.bel (s := w.heap.size + 2) (by omega) (.slice none 0 0) (.slice none 0 0)
    have d0 : ((w1.setCell ⟨w.heap.size + 2, 0, none⟩ (.slice none 0 0)).setCell ⟨w.heap.size + 2, 1, none⟩ (.slice none 0 0)).cell? ⟨w.heap.size + 2, 0, none⟩ = some (.slice none 0 0) := by simp [go_sem, r0, r1]
    have d1 : ((w1.setCell ⟨w.heap.size + 2, 0, none⟩ (.slice none 0 0)).setCell ⟨w.heap.size + 2, 1, none⟩ (.slice none 0 0)).cell? ⟨w.heap.size + 2, 1, none⟩ = some (.slice none 0 0) := by simp [go_sem, r0, r1]
    have hs4 : w.heap.size + 2 ≤ ((w1.setCell ⟨w.heap.size + 2, 0, none⟩ (.slice none 0 0)).setCell ⟨w.heap.size + 2, 1, none⟩ (.slice none 0 0)).heap.size := by simp [World.setCell]; omega
    have hbk : ∀ q, q ≠ w.heap.size + 2 → ((w1.setCell ⟨w.heap.size + 2, 0, none⟩ (.slice none 0 0)).setCell ⟨w.heap.size + 2, 1, none⟩ (.slice none 0 0)).heap[q]? = w1.heap[q]? := fun q hq => ret_block (.slice none 0 0) (.slice none 0 0) hq
    generalize ((w1.setCell ⟨w.heap.size + 2, 0, none⟩ (.slice none 0 0)).setCell ⟨w.heap.size + 2, 1, none⟩ (.slice none 0 0)) = W4 at hB4 d0 d1 hs4 hbk ⊢
    clear r0 r1 z0 z1
    simp [bodyPost, results, Tryz.results136, go_sem, d0, d1]
    exact ⟨none, 0, none, 0, by simp, fun h => by omega, hs4, hB4⟩
  rw [lenM_yes hH]
  obtain ⟨hlen, heq⟩ := hok_len hH
  have HH : Hid (HOk p n F T G k P m L H) := hH
  have hE := cenv_of hH.1
  have hga : arcsB p F T G n = true := (graphB_arcs (ordB_parts hH.1).2.1).2
  have hok : okR k P = true := by
    have h1 := ordB_parts hH.1
    simp [okR, h1.2.2.2]
    omega
  rw [← hlen] at hE
  have HC : Hid (cusT p n F T G P = runT (w0U n F T G P (Lf (lstF p n F T P)) (Hf (lstF p n F T P)), w0D n F T G P (Lf (lstF p n F T P)) (Hf (lstF p n F T P))) (allT m (Lf (lstF p n F T P)) (Hf (lstF p n F T P)) m)) := by
    show _ = _
    unfold cusT
    rw [← hlen]
  have HE : Hid (CEnv k n m F T G P (Lf (lstF p n F T P)) (Hf (lstF p n F T P)) ∧ arcsB p F T G n = true) := ⟨hE, hga⟩
  have he2 : ERow w eo m (Lf (lstF p n F T P)) (Hf (lstF p n F T P)) := he.congr (fun i hi => (heq i hi).1) (fun i hi => (heq i hi).2)
  have hm3 := hE.m1000
  clear hH heq hE hga hlen
  obtain ⟨⟨CU, CD⟩, hcu⟩ : ∃ c, cusT p n F T G P = c := ⟨_, rfl⟩
  rw [hcu] at HC ⊢
  clear hcu
  go_enter Tryz.func136, Tryz.ntmps136
  go_wp2_with fail
  refine (implHierOk_any p ao n cap F T G po k pcap P eo m ecap L H hn hk hm _ (hr.below hD.bel nl) (hp.below hD.bel nl) (he.below hD.bel nl)).mono ?_
  rintro e w1 ⟨⟨b, rfl, hb⟩, hb1⟩
  obtain rfl : b = true := hb.2 HH.out
  clear hb
  replace hD := hD.next hb1
  clear hb1
  have q0 := hD.g0
  have q1 := hD.g1
  have q2 := hD.h0
  have q3 := hD.h1
  go_wp2_with fail
  refine (newWorkroom_any po k pcap P eo m ecap _ _ hk hm hok HE.out.1.wf _ (hp.below hD.bel nl) (he2.below hD.bel nl)).mono ?_
  rintro e w2 ⟨b, g, rcap, bm, bU, bV, rfl, R2⟩
  have hs1 : w.heap.size + 3 ≤ w1.heap.size := by have := hD.res.lt; omega
  have hbel := hD.bel
  have hD2 := hD.next R2.bel
  have hgU := R2.ge
  have he1 := he2.below hbel nl
  clear q0 q1 q2 q3 hD
  have q0 := hD2.g0
  have q1 := hD2.g1
  have hr1 := hr.below hD2.bel nl
  have hao : 0 < n → ∀ a, ao = some a → a.block ≠ bU ∧ a.block ≠ bV := fun h0 a e => by
    obtain ⟨b', o', e', c0', _⟩ := hr 0 h0
    rw [e] at e'
    cases e'
    have := lt_of_cell c0'
    have := hbel.size
    simp only
    omega
  go_wp2_with fail
  refine (customize_any w1 k n m p ao cap F T G P _ _ eo ecap b g rcap bm bU bV _ _ HE.out.1 hao _ he1 hr1 R2).mono ?_
  rw [← HC.out]
  rintro e w3 ⟨⟨v3, rfl⟩, R3, T3⟩
  have hD3 : B3 w (.int .i64 p) (.slice ao n cap) (.slice po k pcap) (.slice eo m ecap) w3 := ⟨hbel.trans (R3.bel.mono hbel.size), T3.cell (by simp; omega) hD2.g0, T3.cell (by simp; omega) hD2.g1, T3.cell (by simp; omega) hD2.h0, T3.cell (by simp; omega) hD2.h1, hD2.res.of_block (T3.block _ hD2.res.lt (by simp; omega))⟩
  clear T3 R2 hD2 q0 q1
  go_wp2_with fail
  refine (handOut_any w1 k m P _ _ eo ecap b g rcap bm bU bV _ _ hm3 _ R3).mono ?_
  rintro e w4 ⟨c, d, rfl, hc, hd, hne, iU, iV, hsz, hb4⟩
  have hs3 := hD3.res.lt
  replace hD3 := hD3.next hb4
  clear hb4
  have r0 : w4.cell? ⟨w.heap.size + 2, 0, none⟩ = some (.slice none 0 0) := hD3.res.cell (j := 0) (by omega)
  have r1 : w4.cell? ⟨w.heap.size + 2, 1, none⟩ = some (.slice none 0 0) := hD3.res.cell (j := 1) (by omega)
  obtain ⟨z0, z1⟩ := hD3.res.z2
  have hlr := hD3.res.lt
  go_wp2
  have hB4 := ret_below hD3.bel (s := w.heap.size + 2) (by omega) (.slice (some ⟨c, 0, none⟩) m m) (.slice (some ⟨d, 0, none⟩) m m)
  have d0 : ((w4.setCell ⟨w.heap.size + 2, 0, none⟩ (.slice (some ⟨c, 0, none⟩) m m)).setCell ⟨w.heap.size + 2, 1, none⟩ (.slice (some ⟨d, 0, none⟩) m m)).cell? ⟨w.heap.size + 2, 0, none⟩ = some (.slice (some ⟨c, 0, none⟩) m m) := by simp [go_sem, r0, r1]
  have d1 : ((w4.setCell ⟨w.heap.size + 2, 0, none⟩ (.slice (some ⟨c, 0, none⟩) m m)).setCell ⟨w.heap.size + 2, 1, none⟩ (.slice (some ⟨d, 0, none⟩) m m)).cell? ⟨w.heap.size + 2, 1, none⟩ = some (.slice (some ⟨d, 0, none⟩) m m) := by simp [go_sem, r0, r1]
  have hs4 : w.heap.size + 2 ≤ ((w4.setCell ⟨w.heap.size + 2, 0, none⟩ (.slice (some ⟨c, 0, none⟩) m m)).setCell ⟨w.heap.size + 2, 1, none⟩ (.slice (some ⟨d, 0, none⟩) m m)).heap.size := by simp [World.setCell]; omega
  have hbk : ∀ q, q ≠ w.heap.size + 2 → ((w4.setCell ⟨w.heap.size + 2, 0, none⟩ (.slice (some ⟨c, 0, none⟩) m m)).setCell ⟨w.heap.size + 2, 1, none⟩ (.slice (some ⟨d, 0, none⟩) m m)).heap[q]? = w4.heap[q]? := fun q hq => ret_block (.slice (some ⟨c, 0, none⟩) m m) (.slice (some ⟨d, 0, none⟩) m m) hq
  generalize ((w4.setCell ⟨w.heap.size + 2, 0, none⟩ (.slice (some ⟨c, 0, none⟩) m m)).setCell ⟨w.heap.size + 2, 1, none⟩ (.slice (some ⟨d, 0, none⟩) m m)) = W4 at hB4 d0 d1 hs4 hbk ⊢
  clear r0 r1 z0 z1
  simp [bodyPost, results, Tryz.results136, go_sem, d0, d1]
  exact ⟨some ⟨c, 0, none⟩, m, some ⟨d, 0, none⟩, m, by simp, fun h0 => ⟨c, d, rfl, rfl, by omega, by omega, hne, iU.of_block (hbk c (by omega)), iV.of_block (hbk d (by omega))⟩, hs4, hB4⟩
end
section
open Go.RowKit Go.Maps Go.Deep Go.Joins
attribute [local go_sem ↓] Go.wp_at_zero Go.wp_at_succ
theorem row_kept {w w' : World} {B n : Nat} {ao : Option Addr} {f : Nat → Int} (h : OwnS w B ao n f) (hk : ∀ x, B ≤ x → x < w.heap.size → w'.heap[x]? = w.heap[x]?) : TRow w' 67 ao (n * 3) (fun j => Value.int .i64 (f j)) := fun hm => by
  obtain ⟨b, e, hb, hh⟩ := h 0 (by omega)
  exact ⟨b, e, hh.of_block (hk b hb hh.lt)⟩
set_option maxRecDepth 100000 in
set_option maxHeartbeats 4000000 in
theorem wDone_yes (xo : Option Addr) (x xc : Nat) (A B C : Nat → Int) (p : Int) (ao : Option Addr) (n cap : Nat) (F T G : Nat → Int) (po : Option Addr) (k pcap : Nat) (eo : Option Addr) (m ecap : Nat) (V : Int) (so : Option Addr) (t scap : Nat) (H' : Nat → Int) (hn : n ≤ 1048576) (hx : x ≤ 1048576) (hV : 0 ≤ V ∧ V ≤ 100000) (hwf : WfTo A B x) (w : World) (hr : Row w ao n F T G) (hr2 : Row w xo x A B C) (hres : resOf p n F T G x A B C = some H') :
    Calls Tryz.prog 131 #[.agg #[.slice xo x xc], .agg #[.int .i64 p, .slice ao n cap, .slice po k pcap, .slice eo m ecap, .int .i64 V, .slice so t scap]] w fun e w' => ∃ ao' cap', e = .returned (.agg #[.int .i64 p, .slice ao' n cap', .slice po k pcap, .slice eo m ecap, .int .i64 (V + 1), .slice so t scap]) ∧ TRow w' 67 ao' (n * 3) (fun j => Value.int .i64 (ar F T H' j)) ∧ Below w.heap.size w w' := by
  have hA : Below w.heap.size w (((w.alloc (.cells #[.slice xo x xc] 83)).alloc (.cells #[.int .i64 p, .slice ao n cap, .slice po k pcap, .slice eo m ecap, .int .i64 V, .slice so t scap] 33)).alloc (.cells #[.int .i64 0, .slice none 0 0, .slice none 0 0, .slice none 0 0, .int .i64 0, .slice none 0 0] 33)) := (((Below.refl _ _).alloc nl _).alloc (by simp) _).alloc (by simp; omega) _
  have vA := (sv6_new (w.alloc (.cells #[.slice xo x xc] 83)) p (.slice ao n cap) (.slice po k pcap) (.slice eo m ecap) V (.slice so t scap) 33).alloc (.cells #[.int .i64 0, .slice none 0 0, .slice none 0 0, .slice none 0 0, .int .i64 0, .slice none 0 0] 33)
  have vR := sv6_new ((w.alloc (.cells #[.slice xo x xc] 83)).alloc (.cells #[.int .i64 p, .slice ao n cap, .slice po k pcap, .slice eo m ecap, .int .i64 V, .slice so t scap] 33)) 0 (.slice none 0 0) (.slice none 0 0) (.slice none 0 0) 0 (.slice none 0 0) 33
  simp only [World.size_alloc] at vA vR
  have hsz : (((w.alloc (.cells #[.slice xo x xc] 83)).alloc (.cells #[.int .i64 p, .slice ao n cap, .slice po k pcap, .slice eo m ecap, .int .i64 V, .slice so t scap] 33)).alloc (.cells #[.int .i64 0, .slice none 0 0, .slice none 0 0, .slice none 0 0, .int .i64 0, .slice none 0 0] 33)).heap.size = w.heap.size + 3 := by simp
  replace hr := hr.below hA nl
  replace hr2 := hr2.below hA nl
  have hV0 := hV.1
  have hV1 := hV.2
  go_enter Tryz.func131, Tryz.ntmps131
  go_wp2_with fail
  generalize (((w.alloc (.cells #[.slice xo x xc] 83)).alloc (.cells #[.int .i64 p, .slice ao n cap, .slice po k pcap, .slice eo m ecap, .int .i64 V, .slice so t scap] 33)).alloc (.cells #[.int .i64 0, .slice none 0 0, .slice none 0 0, .slice none 0 0, .int .i64 0, .slice none 0 0] 33)) = W at hA vA vR hr hr2 hsz ⊢
  refine (implReweigh_any p ao n cap F T G xo x xc A B C hn hx hwf W hr hr2 p n H' true (.inl ⟨hres, rfl, rfl, rfl⟩)).mono ?_
  rintro e w1 ⟨ao', cap', rfl, hO, hb1⟩
  have hs1 := hb1.size
  replace vA := vA.next hb1
  replace vR := vR.next hb1
  replace hA := below_next hA nl hb1
  clear hr hr2 hb1
  have hal := (Below.refl w1.heap.size w1).alloc nl (.cells #[.int .i64 p, .slice ao' n cap'] 26)
  replace vA := vA.next hal
  replace vR := vR.next hal
  replace hA := below_next hA nl hal
  have g0 : (w1.alloc (.cells #[.int .i64 p, .slice ao' n cap'] 26)).cell? ⟨w1.heap.size, 0, none⟩ = some (.int .i64 p) := by simp [go_sem]
  have g1 : (w1.alloc (.cells #[.int .i64 p, .slice ao' n cap'] 26)).cell? ⟨w1.heap.size, 1, none⟩ = some (.slice ao' n cap') := by simp [go_sem]
  have hO1 : Row (w1.alloc (.cells #[.int .i64 p, .slice ao' n cap'] 26)) ao' n F T H' := hO.row.below hal nl
  have x0 := vA.cell (j := 0) (by omega)
  have y0 := vA.frozen 0
  have r0 := vR.cell (j := 0) (by omega)
  have z0 := vR.frozen 0
  have x1 := vA.cell (j := 1) (by omega)
  have y1 := vA.frozen 1
  have r1 := vR.cell (j := 1) (by omega)
  have z1 := vR.frozen 1
  have x2 := vA.cell (j := 2) (by omega)
  have y2 := vA.frozen 2
  have r2 := vR.cell (j := 2) (by omega)
  have z2 := vR.frozen 2
  have x3 := vA.cell (j := 3) (by omega)
  have y3 := vA.frozen 3
  have r3 := vR.cell (j := 3) (by omega)
  have z3 := vR.frozen 3
  have x4 := vA.cell (j := 4) (by omega)
  have y4 := vA.frozen 4
  have r4 := vR.cell (j := 4) (by omega)
  have z4 := vR.frozen 4
  have x5 := vA.cell (j := 5) (by omega)
  have y5 := vA.frozen 5
  have r5 := vR.cell (j := 5) (by omega)
  have z5 := vR.frozen 5
  simp [sv6] at x0 x1 x2 x3 x4 x5 r0 r1 r2 r3 r4 r5
  go_wp2
  have u := (((((((((vR.other (c := w.heap.size + 1) (i := 0) (by omega) (.int .i64 p)).other (c := w.heap.size + 1) (i := 1) (by omega) (.slice ao' n cap')).other (c := w.heap.size + 1) (i := 4) (by omega) (.int .i64 (V + 1))).set 0 (.int .i64 p)).set 1 (.slice ao' n cap')).set 2 (.slice po k pcap)).set 3 (.slice eo m ecap)).set 4 (.int .i64 (V + 1))).set 5 (.slice so t scap))
  obtain ⟨q0, q1, q2, q3, q4, q5⟩ := u.c6
  simp [sv6] at q0 q1 q2 q3 q4 q5
  have keep : ∀ x, x ≠ w.heap.size + 1 → x ≠ w.heap.size + 1 + 1 → ((((((((((w1.alloc (.cells #[.int .i64 p, .slice ao' n cap'] 26)).setCell ⟨w.heap.size + 1, 0, none⟩ (.int .i64 p)).setCell ⟨w.heap.size + 1, 1, none⟩ (.slice ao' n cap')).setCell ⟨w.heap.size + 1, 4, none⟩ (.int .i64 (V + 1))).setCell ⟨w.heap.size + 1 + 1, 0, none⟩ (.int .i64 p)).setCell ⟨w.heap.size + 1 + 1, 1, none⟩ (.slice ao' n cap')).setCell ⟨w.heap.size + 1 + 1, 2, none⟩ (.slice po k pcap)).setCell ⟨w.heap.size + 1 + 1, 3, none⟩ (.slice eo m ecap)).setCell ⟨w.heap.size + 1 + 1, 4, none⟩ (.int .i64 (V + 1))).setCell ⟨w.heap.size + 1 + 1, 5, none⟩ (.slice so t scap)).heap[x]? = (w1.alloc (.cells #[.int .i64 p, .slice ao' n cap'] 26)).heap[x]? := fun x h0 h1 => by
    rw [Below.heap_setCell _ _ _ _ (by simp; omega), Below.heap_setCell _ _ _ _ (by simp; omega), Below.heap_setCell _ _ _ _ (by simp; omega), Below.heap_setCell _ _ _ _ (by simp; omega), Below.heap_setCell _ _ _ _ (by simp; omega), Below.heap_setCell _ _ _ _ (by simp; omega), Below.heap_setCell _ _ _ _ (by simp; omega), Below.heap_setCell _ _ _ _ (by simp; omega), Below.heap_setCell _ _ _ _ (by simp; omega)]
  have hBX : Below w.heap.size w ((((((((((w1.alloc (.cells #[.int .i64 p, .slice ao' n cap'] 26)).setCell ⟨w.heap.size + 1, 0, none⟩ (.int .i64 p)).setCell ⟨w.heap.size + 1, 1, none⟩ (.slice ao' n cap')).setCell ⟨w.heap.size + 1, 4, none⟩ (.int .i64 (V + 1))).setCell ⟨w.heap.size + 1 + 1, 0, none⟩ (.int .i64 p)).setCell ⟨w.heap.size + 1 + 1, 1, none⟩ (.slice ao' n cap')).setCell ⟨w.heap.size + 1 + 1, 2, none⟩ (.slice po k pcap)).setCell ⟨w.heap.size + 1 + 1, 3, none⟩ (.slice eo m ecap)).setCell ⟨w.heap.size + 1 + 1, 4, none⟩ (.int .i64 (V + 1))).setCell ⟨w.heap.size + 1 + 1, 5, none⟩ (.slice so t scap)) := (((((((((hA.setCell (p := ⟨w.heap.size + 1, 0, none⟩) (by first | (simp; done) | (simp; omega)) _).setCell (p := ⟨w.heap.size + 1, 1, none⟩) (by first | (simp; done) | (simp; omega)) _).setCell (p := ⟨w.heap.size + 1, 4, none⟩) (by first | (simp; done) | (simp; omega)) _).setCell (p := ⟨w.heap.size + 1 + 1, 0, none⟩) (by first | (simp; done) | (simp; omega)) _).setCell (p := ⟨w.heap.size + 1 + 1, 1, none⟩) (by first | (simp; done) | (simp; omega)) _).setCell (p := ⟨w.heap.size + 1 + 1, 2, none⟩) (by first | (simp; done) | (simp; omega)) _).setCell (p := ⟨w.heap.size + 1 + 1, 3, none⟩) (by first | (simp; done) | (simp; omega)) _).setCell (p := ⟨w.heap.size + 1 + 1, 4, none⟩) (by first | (simp; done) | (simp; omega)) _).setCell (p := ⟨w.heap.size + 1 + 1, 5, none⟩) (by first | (simp; done) | (simp; omega)) _)
  clear u
  generalize ((((((((((w1.alloc (.cells #[.int .i64 p, .slice ao' n cap'] 26)).setCell ⟨w.heap.size + 1, 0, none⟩ (.int .i64 p)).setCell ⟨w.heap.size + 1, 1, none⟩ (.slice ao' n cap')).setCell ⟨w.heap.size + 1, 4, none⟩ (.int .i64 (V + 1))).setCell ⟨w.heap.size + 1 + 1, 0, none⟩ (.int .i64 p)).setCell ⟨w.heap.size + 1 + 1, 1, none⟩ (.slice ao' n cap')).setCell ⟨w.heap.size + 1 + 1, 2, none⟩ (.slice po k pcap)).setCell ⟨w.heap.size + 1 + 1, 3, none⟩ (.slice eo m ecap)).setCell ⟨w.heap.size + 1 + 1, 4, none⟩ (.int .i64 (V + 1))).setCell ⟨w.heap.size + 1 + 1, 5, none⟩ (.slice so t scap)) = WX at q0 q1 q2 q3 q4 q5 keep hBX ⊢
  refine bodyPost_ret (v := .agg #[.int .i64 p, .slice ao' n cap', .slice po k pcap, .slice eo m ecap, .int .i64 (V + 1), .slice so t scap]) (by simp [results, Tryz.results131, go_sem, q0, q1, q2, q3, q4, q5]) rfl ⟨ao', cap', rfl, row_kept hO (fun x h1 h2 => ?_), hBX⟩
  rw [keep x (by omega) (by omega), hal.block x h2]
set_option maxRecDepth 100000 in
set_option maxHeartbeats 4000000 in
theorem wDone_no (xo : Option Addr) (x xc : Nat) (A B C : Nat → Int) (p : Int) (ao : Option Addr) (n cap : Nat) (F T G : Nat → Int) (po : Option Addr) (k pcap : Nat) (eo : Option Addr) (m ecap : Nat) (V : Int) (so : Option Addr) (t scap : Nat) (H' : Nat → Int) (hn : n ≤ 1048576) (hx : x ≤ 1048576) (hV : 0 ≤ V ∧ V ≤ 100000) (hwf : WfTo A B x) (w : World) (hr : Row w ao n F T G) (hr2 : Row w xo x A B C) (hres : resOf p n F T G x A B C = none) :
    Calls Tryz.prog 131 #[.agg #[.slice xo x xc], .agg #[.int .i64 p, .slice ao n cap, .slice po k pcap, .slice eo m ecap, .int .i64 V, .slice so t scap]] w fun e w' => e = .returned (.agg #[.int .i64 p, .slice ao n cap, .slice po k pcap, .slice eo m ecap, .int .i64 V, .slice so t scap]) ∧ Below w.heap.size w w' := by
  have hA : Below w.heap.size w (((w.alloc (.cells #[.slice xo x xc] 83)).alloc (.cells #[.int .i64 p, .slice ao n cap, .slice po k pcap, .slice eo m ecap, .int .i64 V, .slice so t scap] 33)).alloc (.cells #[.int .i64 0, .slice none 0 0, .slice none 0 0, .slice none 0 0, .int .i64 0, .slice none 0 0] 33)) := (((Below.refl _ _).alloc nl _).alloc (by simp) _).alloc (by simp; omega) _
  have vA := (sv6_new (w.alloc (.cells #[.slice xo x xc] 83)) p (.slice ao n cap) (.slice po k pcap) (.slice eo m ecap) V (.slice so t scap) 33).alloc (.cells #[.int .i64 0, .slice none 0 0, .slice none 0 0, .slice none 0 0, .int .i64 0, .slice none 0 0] 33)
  have vR := sv6_new ((w.alloc (.cells #[.slice xo x xc] 83)).alloc (.cells #[.int .i64 p, .slice ao n cap, .slice po k pcap, .slice eo m ecap, .int .i64 V, .slice so t scap] 33)) 0 (.slice none 0 0) (.slice none 0 0) (.slice none 0 0) 0 (.slice none 0 0) 33
  simp only [World.size_alloc] at vA vR
  have hsz : (((w.alloc (.cells #[.slice xo x xc] 83)).alloc (.cells #[.int .i64 p, .slice ao n cap, .slice po k pcap, .slice eo m ecap, .int .i64 V, .slice so t scap] 33)).alloc (.cells #[.int .i64 0, .slice none 0 0, .slice none 0 0, .slice none 0 0, .int .i64 0, .slice none 0 0] 33)).heap.size = w.heap.size + 3 := by simp
  replace hr := hr.below hA nl
  replace hr2 := hr2.below hA nl
  have hV0 := hV.1
  have hV1 := hV.2
  go_enter Tryz.func131, Tryz.ntmps131
  go_wp2_with fail
  generalize (((w.alloc (.cells #[.slice xo x xc] 83)).alloc (.cells #[.int .i64 p, .slice ao n cap, .slice po k pcap, .slice eo m ecap, .int .i64 V, .slice so t scap] 33)).alloc (.cells #[.int .i64 0, .slice none 0 0, .slice none 0 0, .slice none 0 0, .int .i64 0, .slice none 0 0] 33)) = W at hA vA vR hr hr2 hsz ⊢
  refine (implReweigh_any p ao n cap F T G xo x xc A B C hn hx hwf W hr hr2 0 0 G false (.inr ⟨hres, rfl, rfl, rfl⟩)).mono ?_
  rintro e w1 ⟨ao', cap', rfl, hO, hb1⟩
  have hs1 := hb1.size
  replace vA := vA.next hb1
  replace vR := vR.next hb1
  replace hA := below_next hA nl hb1
  clear hr hr2 hb1
  have hal := (Below.refl w1.heap.size w1).alloc nl (.cells #[.int .i64 0, .slice ao' 0 cap'] 26)
  replace vA := vA.next hal
  replace vR := vR.next hal
  replace hA := below_next hA nl hal
  have g0 : (w1.alloc (.cells #[.int .i64 0, .slice ao' 0 cap'] 26)).cell? ⟨w1.heap.size, 0, none⟩ = some (.int .i64 0) := by simp [go_sem]
  have g1 : (w1.alloc (.cells #[.int .i64 0, .slice ao' 0 cap'] 26)).cell? ⟨w1.heap.size, 1, none⟩ = some (.slice ao' 0 cap') := by simp [go_sem]
  have x0 := vA.cell (j := 0) (by omega)
  have y0 := vA.frozen 0
  have r0 := vR.cell (j := 0) (by omega)
  have z0 := vR.frozen 0
  have x1 := vA.cell (j := 1) (by omega)
  have y1 := vA.frozen 1
  have r1 := vR.cell (j := 1) (by omega)
  have z1 := vR.frozen 1
  have x2 := vA.cell (j := 2) (by omega)
  have y2 := vA.frozen 2
  have r2 := vR.cell (j := 2) (by omega)
  have z2 := vR.frozen 2
  have x3 := vA.cell (j := 3) (by omega)
  have y3 := vA.frozen 3
  have r3 := vR.cell (j := 3) (by omega)
  have z3 := vR.frozen 3
  have x4 := vA.cell (j := 4) (by omega)
  have y4 := vA.frozen 4
  have r4 := vR.cell (j := 4) (by omega)
  have z4 := vR.frozen 4
  have x5 := vA.cell (j := 5) (by omega)
  have y5 := vA.frozen 5
  have r5 := vR.cell (j := 5) (by omega)
  have z5 := vR.frozen 5
  simp [sv6] at x0 x1 x2 x3 x4 x5 r0 r1 r2 r3 r4 r5
  go_wp2
  have u := ((((((vR.set 0 (.int .i64 p)).set 1 (.slice ao n cap)).set 2 (.slice po k pcap)).set 3 (.slice eo m ecap)).set 4 (.int .i64 V)).set 5 (.slice so t scap))
  obtain ⟨q0, q1, q2, q3, q4, q5⟩ := u.c6
  simp [sv6] at q0 q1 q2 q3 q4 q5
  have keep : ∀ x, x ≠ w.heap.size + 1 + 1 → (((((((w1.alloc (.cells #[.int .i64 0, .slice ao' 0 cap'] 26)).setCell ⟨w.heap.size + 1 + 1, 0, none⟩ (.int .i64 p)).setCell ⟨w.heap.size + 1 + 1, 1, none⟩ (.slice ao n cap)).setCell ⟨w.heap.size + 1 + 1, 2, none⟩ (.slice po k pcap)).setCell ⟨w.heap.size + 1 + 1, 3, none⟩ (.slice eo m ecap)).setCell ⟨w.heap.size + 1 + 1, 4, none⟩ (.int .i64 V)).setCell ⟨w.heap.size + 1 + 1, 5, none⟩ (.slice so t scap)).heap[x]? = (w1.alloc (.cells #[.int .i64 0, .slice ao' 0 cap'] 26)).heap[x]? := fun x h0 => by
    rw [Below.heap_setCell _ _ _ _ (by simp; omega), Below.heap_setCell _ _ _ _ (by simp; omega), Below.heap_setCell _ _ _ _ (by simp; omega), Below.heap_setCell _ _ _ _ (by simp; omega), Below.heap_setCell _ _ _ _ (by simp; omega), Below.heap_setCell _ _ _ _ (by simp; omega)]
  have hBX : Below w.heap.size w (((((((w1.alloc (.cells #[.int .i64 0, .slice ao' 0 cap'] 26)).setCell ⟨w.heap.size + 1 + 1, 0, none⟩ (.int .i64 p)).setCell ⟨w.heap.size + 1 + 1, 1, none⟩ (.slice ao n cap)).setCell ⟨w.heap.size + 1 + 1, 2, none⟩ (.slice po k pcap)).setCell ⟨w.heap.size + 1 + 1, 3, none⟩ (.slice eo m ecap)).setCell ⟨w.heap.size + 1 + 1, 4, none⟩ (.int .i64 V)).setCell ⟨w.heap.size + 1 + 1, 5, none⟩ (.slice so t scap)) := ((((((hA.setCell (p := ⟨w.heap.size + 1 + 1, 0, none⟩) (by first | (simp; done) | (simp; omega)) _).setCell (p := ⟨w.heap.size + 1 + 1, 1, none⟩) (by first | (simp; done) | (simp; omega)) _).setCell (p := ⟨w.heap.size + 1 + 1, 2, none⟩) (by first | (simp; done) | (simp; omega)) _).setCell (p := ⟨w.heap.size + 1 + 1, 3, none⟩) (by first | (simp; done) | (simp; omega)) _).setCell (p := ⟨w.heap.size + 1 + 1, 4, none⟩) (by first | (simp; done) | (simp; omega)) _).setCell (p := ⟨w.heap.size + 1 + 1, 5, none⟩) (by first | (simp; done) | (simp; omega)) _)
  clear u
  generalize (((((((w1.alloc (.cells #[.int .i64 0, .slice ao' 0 cap'] 26)).setCell ⟨w.heap.size + 1 + 1, 0, none⟩ (.int .i64 p)).setCell ⟨w.heap.size + 1 + 1, 1, none⟩ (.slice ao n cap)).setCell ⟨w.heap.size + 1 + 1, 2, none⟩ (.slice po k pcap)).setCell ⟨w.heap.size + 1 + 1, 3, none⟩ (.slice eo m ecap)).setCell ⟨w.heap.size + 1 + 1, 4, none⟩ (.int .i64 V)).setCell ⟨w.heap.size + 1 + 1, 5, none⟩ (.slice so t scap)) = WX at q0 q1 q2 q3 q4 q5 keep hBX ⊢
  refine bodyPost_ret (v := .agg #[.int .i64 p, .slice ao n cap, .slice po k pcap, .slice eo m ecap, .int .i64 V, .slice so t scap]) (by simp [results, Tryz.results131, go_sem, q0, q1, q2, q3, q4, q5]) rfl ⟨rfl, hBX⟩
set_option maxRecDepth 100000 in
set_option maxHeartbeats 4000000 in
theorem pDone_any  (p : Int) (ao : Option Addr) (n cap : Nat) (po : Option Addr) (k pcap : Nat) (eo : Option Addr) (m ecap : Nat) (V : Int) (so : Option Addr) (t scap : Nat) (w : World) :
    Calls Tryz.prog 129 #[.agg #[], .agg #[.int .i64 p, .slice ao n cap, .slice po k pcap, .slice eo m ecap, .int .i64 V, .slice so t scap]] w fun e w' => e = .returned (.agg #[.int .i64 p, .slice ao n cap, .slice po k pcap, .slice eo m ecap, .int .i64 V, .slice so t scap]) ∧ Below w.heap.size w w' := by
  go_enter Tryz.func129, Tryz.ntmps129
  go_wp2
  exact bodyPost_ret (v := .agg #[.int .i64 p, .slice ao n cap, .slice po k pcap, .slice eo m ecap, .int .i64 V, .slice so t scap]) (by simp [results, Tryz.results129, go_sem]) rfl ⟨rfl, (((Below.refl _ _).alloc nl _).alloc (by simp) _).alloc (by simp; omega) _⟩
set_option maxRecDepth 100000 in
set_option maxHeartbeats 4000000 in
theorem qDone_any (a b : Int) (p : Int) (ao : Option Addr) (n cap : Nat) (po : Option Addr) (k pcap : Nat) (eo : Option Addr) (m ecap : Nat) (V : Int) (so : Option Addr) (t scap : Nat) (w : World) :
    Calls Tryz.prog 135 #[.agg #[.int .i64 a, .int .i64 b], .agg #[.int .i64 p, .slice ao n cap, .slice po k pcap, .slice eo m ecap, .int .i64 V, .slice so t scap]] w fun e w' => e = .returned (.agg #[.int .i64 p, .slice ao n cap, .slice po k pcap, .slice eo m ecap, .int .i64 V, .slice so t scap]) ∧ Below w.heap.size w w' := by
  go_enter Tryz.func135, Tryz.ntmps135
  go_wp2
  exact bodyPost_ret (v := .agg #[.int .i64 p, .slice ao n cap, .slice po k pcap, .slice eo m ecap, .int .i64 V, .slice so t scap]) (by simp [results, Tryz.results135, go_sem]) rfl ⟨rfl, (((Below.refl _ _).alloc nl _).alloc (by simp) _).alloc (by simp; omega) _⟩
theorem ba_app (a b : List UInt8) : (⟨a.toArray⟩ : ByteArray) ++ ⟨b.toArray⟩ = ⟨(a ++ b).toArray⟩ := by
  rw [← ByteArray.append_eq]
  apply ByteArray.ext
  simp [ByteArray.append]
theorem dig_len (n : Nat) : (Lib.decDigits n).length ≤ n + 1 := by
  induction n using Nat.strongRecOn with
  | _ n ih =>
    by_cases h : n < 10
    · rw [decDigits_one h]; simp
    · rw [decDigits_ten (by omega)]
      have := ih (n / 10) (by omega)
      simp
      omega
set_option maxRecDepth 100000 in
set_option maxHeartbeats 4000000 in
theorem wAns_no (xo : Option Addr) (x xc : Nat) (p : Int) (ao : Option Addr) (n cap : Nat) (po : Option Addr) (k pcap : Nat) (eo : Option Addr) (m ecap : Nat) (V : Int) (so : Option Addr) (t scap : Nat) (p2 : Int) (ao2 : Option Addr) (n2 cap2 : Nat) (po2 : Option Addr) (k2 pcap2 : Nat) (eo2 : Option Addr) (m2 ecap2 : Nat) (V2 : Int) (so2 : Option Addr) (t2 scap2 : Nat) (hV : V = V2) (w : World) :
    Calls Tryz.prog 130 #[.agg #[.slice xo x xc], .agg #[.int .i64 p2, .slice ao2 n2 cap2, .slice po2 k2 pcap2, .slice eo2 m2 ecap2, .int .i64 V2, .slice so2 t2 scap2], .agg #[.int .i64 p, .slice ao n cap, .slice po k pcap, .slice eo m ecap, .int .i64 V, .slice so t scap]] w fun e w' => e = .returned (txt [110, 111]) ∧ Below w.heap.size w w' := by
  subst hV
  go_enter Tryz.func130, Tryz.ntmps130
  go_wp2
  go_ret
  exact ⟨rfl, (((Below.refl _ _).alloc nl _).alloc (by simp) _).alloc (by simp; omega) _⟩
set_option maxRecDepth 100000 in
set_option maxHeartbeats 4000000 in
theorem wAns_ok (xo : Option Addr) (x xc : Nat) (p : Int) (ao : Option Addr) (n cap : Nat) (po : Option Addr) (k pcap : Nat) (eo : Option Addr) (m ecap : Nat) (V : Int) (so : Option Addr) (t scap : Nat) (p2 : Int) (ao2 : Option Addr) (n2 cap2 : Nat) (po2 : Option Addr) (k2 pcap2 : Nat) (eo2 : Option Addr) (m2 ecap2 : Nat) (V2 : Int) (so2 : Option Addr) (t2 scap2 : Nat) (hV : ¬ V = V2) (h0 : 0 ≤ V) (h1 : V ≤ 1000000) (w : World) (ht : Tab w) :
    Calls Tryz.prog 130 #[.agg #[.slice xo x xc], .agg #[.int .i64 p2, .slice ao2 n2 cap2, .slice po2 k2 pcap2, .slice eo2 m2 ecap2, .int .i64 V2, .slice so2 t2 scap2], .agg #[.int .i64 p, .slice ao n cap, .slice po k pcap, .slice eo m ecap, .int .i64 V, .slice so t scap]] w fun e w' => e = .returned (txt ([111, 107, 32] ++ Lib.decDigits V.toNat)) ∧ Below w.heap.size w w' := by
  have hA : Below w.heap.size w (((w.alloc (.cells #[.slice xo x xc] 83)).alloc (.cells #[.int .i64 p2, .slice ao2 n2 cap2, .slice po2 k2 pcap2, .slice eo2 m2 ecap2, .int .i64 V2, .slice so2 t2 scap2] 33)).alloc (.cells #[.int .i64 p, .slice ao n cap, .slice po k pcap, .slice eo m ecap, .int .i64 V, .slice so t scap] 33)) := (((Below.refl _ _).alloc nl _).alloc (by simp) _).alloc (by simp; omega) _
  have hl := dig_len V.toNat
  have hlen : ¬ 9223372036854775807 < 3 + (Lib.decDigits V.toNat).length := by omega
  go_enter Tryz.func130, Tryz.ntmps130
  go_wp2_with fail
  refine (showNumber_any V h0 (by omega) _ (ht.below hA nl)).mono ?_
  rintro e w1 ⟨rfl, hb1⟩
  go_wp2
  go_ret
  exact ⟨rfl, below_next hA nl hb1⟩
structure QS (w W : World) (mb : Nat) (a b p : Int) (s1 s2 s3 : Value) (V : Int) (s5 m0 m1 : Value) : Prop where
  bel : Below w.heap.size w W
  q : VHas W w.heap.size 86 2 (gb2 a (.int .i64 b))
  a : VHas W (w.heap.size + 1 + 1) 33 6 (sv6 p s1 s2 s3 V s5)
  m : VHas W mb 179 2 (me2 m0 m1)
theorem QS.next {w W W' : World} {mb : Nat} {a b p : Int} {s1 s2 s3 : Value} {V : Int} {s5 m0 m1 : Value} (h : QS w W mb a b p s1 s2 s3 V s5 m0 m1) (hb : Below W.heap.size W W') : QS w W' mb a b p s1 s2 s3 V s5 m0 m1 := ⟨below_next h.bel nl hb, h.q.next hb, h.a.next hb, h.m.next hb⟩
def dTx (d : Int) : List UInt8 := if d = 1000000000000 then [110, 111] else Lib.decDigits d.toNat
theorem showDistance_any (d : Int) (h0 : 0 ≤ d) (h1 : d ≤ 1000000000000) (w : World) (ht : Tab w) : Calls Tryz.prog 39 #[.int .i64 d] w fun e w' => e = .returned (txt (dTx d)) ∧ Below w.heap.size w w' := by
  unfold dTx
  by_cases h : d = 1000000000000
  · subst h
    rw [if_pos rfl]
    exact showDistance_far w
  · rw [if_neg h]
    obtain ⟨dn, rfl⟩ := Int.eq_ofNat_of_zero_le h0
    exact showDistance_in dn h (by omega) w ht
set_option maxRecDepth 100000 in
set_option maxHeartbeats 4000000 in
theorem qAns_any (a b : Int) (p : Int) (ao : Option Addr) (n cap : Nat) (F T G : Nat → Int) (po : Option Addr) (k pcap : Nat) (P : Nat → Int) (eo : Option Addr) (m ecap : Nat) (L H : Nat → Int) (V : Int) (so : Option Addr) (t scap : Nat) (p2 : Int) (ao2 : Option Addr) (n2 cap2 : Nat) (po2 : Option Addr) (k2 pcap2 : Nat) (eo2 : Option Addr) (m2 ecap2 : Nat) (V2 : Int) (so2 : Option Addr) (t2 scap2 : Nat) (N : Nat) (CU CD : Nat → Int) (hn : n ≤ 1048576) (hk : k ≤ 1048576) (hm : m ≤ 1048576) (hN : N ≤ 1048576) (hlm : lenM p n F T G k P m L H = N) (hC : cusT p n F T G P = (CU, CD)) (dd : Int) (hdd : dst k P m L H N CU N CD a b = dd) (hd0 : 0 ≤ dd) (hd1 : dd ≤ 1000000000000) (h0 : 0 ≤ V) (h1 : V ≤ 1000000) (w : World) (ht : Tab w) (hr : Row w ao n F T G) (hp : IRow w po k P) (he : ERow w eo m L H) :
    Calls Tryz.prog 134 #[.agg #[.int .i64 a, .int .i64 b], .agg #[.int .i64 p2, .slice ao2 n2 cap2, .slice po2 k2 pcap2, .slice eo2 m2 ecap2, .int .i64 V2, .slice so2 t2 scap2], .agg #[.int .i64 p, .slice ao n cap, .slice po k pcap, .slice eo m ecap, .int .i64 V, .slice so t scap]] w fun e w' => e = .returned (txt (Lib.decDigits V.toNat ++ [32] ++ dTx dd)) ∧ Below w.heap.size w w' := by
  have hA : Below w.heap.size w (((w.alloc (.cells #[.int .i64 a, .int .i64 b] 86)).alloc (.cells #[.int .i64 p2, .slice ao2 n2 cap2, .slice po2 k2 pcap2, .slice eo2 m2 ecap2, .int .i64 V2, .slice so2 t2 scap2] 33)).alloc (.cells #[.int .i64 p, .slice ao n cap, .slice po k pcap, .slice eo m ecap, .int .i64 V, .slice so t scap] 33)) := (((Below.refl _ _).alloc nl _).alloc (by simp) _).alloc (by simp; omega) _
  have vQ := ((gb2_new w a (.int .i64 b) 86).alloc (.cells #[.int .i64 p2, .slice ao2 n2 cap2, .slice po2 k2 pcap2, .slice eo2 m2 ecap2, .int .i64 V2, .slice so2 t2 scap2] 33)).alloc (.cells #[.int .i64 p, .slice ao n cap, .slice po k pcap, .slice eo m ecap, .int .i64 V, .slice so t scap] 33)
  have vA := sv6_new ((w.alloc (.cells #[.int .i64 a, .int .i64 b] 86)).alloc (.cells #[.int .i64 p2, .slice ao2 n2 cap2, .slice po2 k2 pcap2, .slice eo2 m2 ecap2, .int .i64 V2, .slice so2 t2 scap2] 33)) p (.slice ao n cap) (.slice po k pcap) (.slice eo m ecap) V (.slice so t scap) 33
  simp only [World.size_alloc] at vA
  have hl := dig_len V.toNat
  have hsz : (((w.alloc (.cells #[.int .i64 a, .int .i64 b] 86)).alloc (.cells #[.int .i64 p2, .slice ao2 n2 cap2, .slice po2 k2 pcap2, .slice eo2 m2 ecap2, .int .i64 V2, .slice so2 t2 scap2] 33)).alloc (.cells #[.int .i64 p, .slice ao n cap, .slice po k pcap, .slice eo m ecap, .int .i64 V, .slice so t scap] 33)).heap.size = w.heap.size + 3 := by simp
  replace hr := hr.below hA nl
  replace hp := hp.below hA nl
  replace he := he.below hA nl
  replace ht := ht.below hA nl
  have HCU := fun W h1 h2 h3 => implCustomize_any p ao n cap F T G po k pcap P eo m ecap L H hn hk hm W h1 h2 h3
  rw [hlm, hC] at HCU
  go_enter Tryz.func134, Tryz.ntmps134
  go_wp2_with fail
  generalize (((w.alloc (.cells #[.int .i64 a, .int .i64 b] 86)).alloc (.cells #[.int .i64 p2, .slice ao2 n2 cap2, .slice po2 k2 pcap2, .slice eo2 m2 ecap2, .int .i64 V2, .slice so2 t2 scap2] 33)).alloc (.cells #[.int .i64 p, .slice ao n cap, .slice po k pcap, .slice eo m ecap, .int .i64 V, .slice so t scap] 33)) = W at hA vQ vA hr hp he ht hsz ⊢
  refine (HCU _ hr hp he).mono ?_
  rintro e w1 ⟨uo, uc, vo, vc, rfl, hUV, _, hb1⟩
  have hU : IRow w1 uo N CU := fun q hq => by
    obtain ⟨b1, b2, e1, e2, _, _, _, i1, i2⟩ := hUV (by omega)
    rw [e1]; exact i1.row q hq
  have hVV : IRow w1 vo N CD := fun q hq => by
    obtain ⟨b1, b2, e1, e2, _, _, _, i1, i2⟩ := hUV (by omega)
    rw [e2]; exact i2.row q hq
  have hal := below_next hb1 nl ((Below.refl w1.heap.size w1).alloc nl (.cells #[.slice uo N uc, .slice vo N vc] 179))
  have hal1 := (Below.refl w1.heap.size w1).alloc nl (.cells #[.slice uo N uc, .slice vo N vc] 179)
  have vM := me2_new w1 (.slice uo N uc) (.slice vo N vc)
  have hs1 := hb1.size
  have hs2 : (w1.alloc (.cells #[.slice uo N uc, .slice vo N vc] 179)).heap.size = w1.heap.size + 1 := by simp
  replace hU := hU.below hal1 nl
  replace hVV := hVV.below hal1 nl
  replace hp := hp.below hal nl
  replace he := he.below hal nl
  replace ht := ht.below hal nl
  replace vQ := vQ.next hal
  replace vA := vA.next hal
  replace hA := below_next hA nl hal
  clear hUV hb1 hr HCU hal hal1
  go_wp2_with fail
  have hlen3 : ¬ 9223372036854775807 < (Lib.decDigits V.toNat).length + 1 := by omega
  have hdl : (dTx dd).length ≤ 1000000000003 := by
    unfold dTx
    split
    · simp
    · have := dig_len dd.toNat
      omega
  have hlen4 : ¬ 9223372036854775807 < (Lib.decDigits V.toNat).length + 1 + (dTx dd).length := by omega
  have hlen5 : ¬ 9223372036854775807 < (Lib.decDigits V.toNat).length + ((dTx dd).length + 1) := by omega
  have B0 : QS w (w1.alloc (.cells #[.slice uo N uc, .slice vo N vc] 179)).drew w1.heap.size a b p (.slice ao n cap) (.slice po k pcap) (.slice eo m ecap) V (.slice so t scap) (.slice uo N uc) (.slice vo N vc) := ⟨hA.drew, vQ.next (Below.refl _ _).drew, vA.next (Below.refl _ _).drew, vM.next (Below.refl _ _).drew⟩
  refine wp_region_held_drew (S := fun w' => QS w w' w1.heap.size a b p (.slice ao n cap) (.slice po k pcap) (.slice eo m ecap) V (.slice so t scap) (.slice uo N uc) (.slice vo N vc)) (by kernel_rfl) B0 (fun hS => ?_)
  replace hU := hU.below (Below.refl _ _).drew nl
  replace hVV := hVV.below (Below.refl _ _).drew nl
  replace hp := hp.below (Below.refl _ _).drew nl
  replace he := he.below (Below.refl _ _).drew nl
  replace ht := ht.below (Below.refl _ _).drew nl
  clear vM vA vQ hA
  generalize (w1.alloc (.cells #[.slice uo N uc, .slice vo N vc] 179)).drew = W1 at B0 hS hU hVV hp he ht ⊢
  generalize w1.heap.size = mb at B0 hS ⊢
  refine tK 0 (some 13) (.pointer (some ⟨w.heap.size + 1 + 1, 4, none⟩)) rfl rfl hS (fun w hSw => by obtain ⟨y0, y1⟩ := hSw.q.c2; have x2 := hSw.a.cell (j := 2) (by omega); have x3 := hSw.a.cell (j := 3) (by omega); have x4 := hSw.a.cell (j := 4) (by omega); obtain ⟨m0, m1⟩ := hSw.m.c2; simp [sv6, gb2, me2] at y0 y1 x2 x3 x4 m0 m1; go_split_ands; go_simp <;> first | rfl | omega | (intro h; exfalso; omega) | (rw [ba_app]; simp)) ?_
  simp only [pS]
  refine tK 1 (some 14) (.int .i64 V) rfl rfl hS (fun w hSw => by obtain ⟨y0, y1⟩ := hSw.q.c2; have x2 := hSw.a.cell (j := 2) (by omega); have x3 := hSw.a.cell (j := 3) (by omega); have x4 := hSw.a.cell (j := 4) (by omega); obtain ⟨m0, m1⟩ := hSw.m.c2; simp [sv6, gb2, me2] at y0 y1 x2 x3 x4 m0 m1; go_split_ands; go_simp <;> first | rfl | omega | (intro h; exfalso; omega) | (rw [ba_app]; simp)) ?_
  simp only [pS]
  refine tK 4 (some 17) (.pointer (some ⟨w.heap.size + 1 + 1, 2, none⟩)) rfl rfl hS (fun w hSw => by obtain ⟨y0, y1⟩ := hSw.q.c2; have x2 := hSw.a.cell (j := 2) (by omega); have x3 := hSw.a.cell (j := 3) (by omega); have x4 := hSw.a.cell (j := 4) (by omega); obtain ⟨m0, m1⟩ := hSw.m.c2; simp [sv6, gb2, me2] at y0 y1 x2 x3 x4 m0 m1; go_split_ands; go_simp <;> first | rfl | omega | (intro h; exfalso; omega) | (rw [ba_app]; simp)) ?_
  simp only [pS]
  refine tK 5 (some 18) (.agg #[.slice po k pcap, .slice eo m ecap]) rfl rfl hS (fun w hSw => by obtain ⟨y0, y1⟩ := hSw.q.c2; have x2 := hSw.a.cell (j := 2) (by omega); have x3 := hSw.a.cell (j := 3) (by omega); have x4 := hSw.a.cell (j := 4) (by omega); obtain ⟨m0, m1⟩ := hSw.m.c2; simp [sv6, gb2, me2] at y0 y1 x2 x3 x4 m0 m1; go_split_ands; go_simp <;> first | rfl | omega | (intro h; exfalso; omega) | (rw [ba_app]; simp)) ?_
  simp only [pS]
  refine tK 6 (some 19) (.agg #[.slice uo N uc, .slice vo N vc]) rfl rfl hS (fun w hSw => by obtain ⟨y0, y1⟩ := hSw.q.c2; have x2 := hSw.a.cell (j := 2) (by omega); have x3 := hSw.a.cell (j := 3) (by omega); have x4 := hSw.a.cell (j := 4) (by omega); obtain ⟨m0, m1⟩ := hSw.m.c2; simp [sv6, gb2, me2] at y0 y1 x2 x3 x4 m0 m1; go_split_ands; go_simp <;> first | rfl | omega | (intro h; exfalso; omega) | (rw [ba_app]; simp)) ?_
  simp only [pS]
  refine tK 7 (some 20) (.pointer (some ⟨w.heap.size, 0, none⟩)) rfl rfl hS (fun w hSw => by obtain ⟨y0, y1⟩ := hSw.q.c2; have x2 := hSw.a.cell (j := 2) (by omega); have x3 := hSw.a.cell (j := 3) (by omega); have x4 := hSw.a.cell (j := 4) (by omega); obtain ⟨m0, m1⟩ := hSw.m.c2; simp [sv6, gb2, me2] at y0 y1 x2 x3 x4 m0 m1; go_split_ands; go_simp <;> first | rfl | omega | (intro h; exfalso; omega) | (rw [ba_app]; simp)) ?_
  simp only [pS]
  refine tK 8 (some 21) (.int .i64 a) rfl rfl hS (fun w hSw => by obtain ⟨y0, y1⟩ := hSw.q.c2; have x2 := hSw.a.cell (j := 2) (by omega); have x3 := hSw.a.cell (j := 3) (by omega); have x4 := hSw.a.cell (j := 4) (by omega); obtain ⟨m0, m1⟩ := hSw.m.c2; simp [sv6, gb2, me2] at y0 y1 x2 x3 x4 m0 m1; go_split_ands; go_simp <;> first | rfl | omega | (intro h; exfalso; omega) | (rw [ba_app]; simp)) ?_
  simp only [pS]
  refine tK 9 (some 22) (.pointer (some ⟨w.heap.size, 1, none⟩)) rfl rfl hS (fun w hSw => by obtain ⟨y0, y1⟩ := hSw.q.c2; have x2 := hSw.a.cell (j := 2) (by omega); have x3 := hSw.a.cell (j := 3) (by omega); have x4 := hSw.a.cell (j := 4) (by omega); obtain ⟨m0, m1⟩ := hSw.m.c2; simp [sv6, gb2, me2] at y0 y1 x2 x3 x4 m0 m1; go_split_ands; go_simp <;> first | rfl | omega | (intro h; exfalso; omega) | (rw [ba_app]; simp)) ?_
  simp only [pS]
  refine tK 10 (some 23) (.int .i64 b) rfl rfl hS (fun w hSw => by obtain ⟨y0, y1⟩ := hSw.q.c2; have x2 := hSw.a.cell (j := 2) (by omega); have x3 := hSw.a.cell (j := 3) (by omega); have x4 := hSw.a.cell (j := 4) (by omega); obtain ⟨m0, m1⟩ := hSw.m.c2; simp [sv6, gb2, me2] at y0 y1 x2 x3 x4 m0 m1; go_split_ands; go_simp <;> first | rfl | omega | (intro h; exfalso; omega) | (rw [ba_app]; simp)) ?_
  simp only [pS]
  refine step1H 2 _ rfl (by kernel_rfl) (by rfl) ?_
  go_simp
  refine (showNumber_any V h0 (by omega) _ ht).mono ?_
  rintro e w2 ⟨rfl, hb2⟩
  have hS2 := QS.next hS hb2
  refine ⟨hS2, ?_⟩
  refine tK 3 (some 16) (txt (Lib.decDigits V.toNat ++ [32])) rfl rfl hS2 (fun w hSw => by obtain ⟨y0, y1⟩ := hSw.q.c2; have x2 := hSw.a.cell (j := 2) (by omega); have x3 := hSw.a.cell (j := 3) (by omega); have x4 := hSw.a.cell (j := 4) (by omega); obtain ⟨m0, m1⟩ := hSw.m.c2; simp [sv6, gb2, me2] at y0 y1 x2 x3 x4 m0 m1; go_split_ands; go_simp <;> first | rfl | omega | (intro h; exfalso; omega) | (rw [ba_app]; simp)) ?_
  simp only [pS]
  refine step1H 11 _ rfl (by kernel_rfl) (by rfl) ?_
  go_simp
  refine (implDistance_any po k pcap P eo m ecap L H uo N uc CU vo N vc CD a b hk hm hN hN _ (hp.below hb2 nl) (he.below hb2 nl) (hU.below hb2 nl) (hVV.below hb2 nl)).mono ?_
  rintro e w3 ⟨rfl, hb3⟩
  rw [hdd]
  have hS3 := QS.next hS2 hb3
  refine ⟨hS3, ?_⟩
  refine step1H 12 _ rfl (by kernel_rfl) (by rfl) ?_
  go_simp
  refine (showDistance_any dd hd0 hd1 _ ((ht.below hb2 nl).below hb3 nl)).mono ?_
  rintro e w4 ⟨rfl, hb4⟩
  have hS4 := QS.next hS3 hb4
  refine ⟨hS4, ?_⟩
  refine tK 13 (some 26) (txt (Lib.decDigits V.toNat ++ [32] ++ dTx dd)) rfl rfl hS4 (fun w hSw => by obtain ⟨y0, y1⟩ := hSw.q.c2; have x2 := hSw.a.cell (j := 2) (by omega); have x3 := hSw.a.cell (j := 3) (by omega); have x4 := hSw.a.cell (j := 4) (by omega); obtain ⟨m0, m1⟩ := hSw.m.c2; simp [sv6, gb2, me2] at y0 y1 x2 x3 x4 m0 m1; go_split_ands; go_simp <;> first | rfl | omega | (intro h; exfalso; omega) | (rw [ba_app]; simp)) ?_
  simp only [pS]
  refine tK 14 (some 6) (txt (Lib.decDigits V.toNat ++ [32] ++ dTx dd)) rfl rfl hS4 (fun w hSw => by obtain ⟨y0, y1⟩ := hSw.q.c2; have x2 := hSw.a.cell (j := 2) (by omega); have x3 := hSw.a.cell (j := 3) (by omega); have x4 := hSw.a.cell (j := 4) (by omega); obtain ⟨m0, m1⟩ := hSw.m.c2; simp [sv6, gb2, me2] at y0 y1 x2 x3 x4 m0 m1; go_split_ands; go_simp <;> first | rfl | omega | (intro h; exfalso; omega) | (rw [ba_app]; simp)) ?_
  simp only [pS]
  refine wpAnyH_done (by kernel_rfl) ?_ _
  go_wp2
  go_ret
  exact ⟨rfl, hS4.bel⟩
end
end Go.Proofs.YthmpliljffmmcaaGreatDoor
