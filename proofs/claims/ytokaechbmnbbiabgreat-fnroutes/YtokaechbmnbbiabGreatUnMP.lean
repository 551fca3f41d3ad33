/-
  A right map and hierarchy and the metric that Customize makes of them are what a guide is of; is a metric customized, by the program.
-/
import Derived.Test.YtokaechbmnbbiabGreatUnJP
import Derived.Test.YtokaechbmnbbiabGreatCusIP
import Derived.Test.YtokaechbmnbbiabGreatPack11
import Derived.Test.YtokaechbmnbbiabGreatPack9
import Derived.Test.YtokaechbmnbbiabGreatPack13
set_option linter.unusedVariables false
set_option linter.unusedSimpArgs false
namespace Go.Proofs.YtokaechbmnbbiabGreat
open Go.RowKit Go.Maps Go.Deep Go.Joins
attribute [local go_sem ↓] Go.wp_at_zero Go.wp_at_succ

theorem gd_can {p : Int} {n : Nat} {F T G : Nat → Int} {k : Nat} {P : Nat → Int} (h : ordB p n F T G k P = true) :
    Gd p n F T G k P (lstF p n F T P).length (Lf (lstF p n F T P)) (Hf (lstF p n F T P)) (cusT p n F T G P).1 (cusT p n F T G P).2 := by
  have C := cenv_of h
  obtain ⟨hkp, hg, ⟨k1, k24⟩, he⟩ := ordB_parts h
  have hI := runT_in (m := (lstF p n F T P).length) (L := Lf (lstF p n F T P)) (H := Hf (lstF p n F T P)) (s := (w0U n F T G P (Lf (lstF p n F T P)) (Hf (lstF p n F T P)), w0D n F T G P (Lf (lstF p n F T P)) (Hf (lstF p n F T P)))) (fun j hj => w0_in C.gt) (fun j hj => w0_in C.gt) (allT (lstF p n F T P).length (Lf (lstF p n F T P)) (Hf (lstF p n F T P)) (lstF p n F T P).length) (fun t ht => allT_ok C.ed C.chd.2 _ t ht)
  exact ⟨by have := C.n100; omega, by omega, by have := C.m1000; omega, ⟨_, C.ed⟩, (graphB_arcs hg).2, wf_small (graphB_p hg) (graphB_arcs hg).2, C.wf, fun j hj => by
    have := (each_in _ he j hj).1
    exact WalkArith.wf_i64 (by omega), fun j hj => hI.1 j hj, fun j hj => hI.2 j hj, C.ei⟩
def IsC (p : Int) (n : Nat) (F T G : Nat → Int) (k : Nat) (P : Nat → Int) (m : Nat) (L H : Nat → Int) (u : Nat) (U : Nat → Int) (v : Nat) (V : Nat → Int) : Prop := HOk p n F T G k P m L H ∧ SameI m u (cusT p n F T G P).1 U ∧ SameI m v (cusT p n F T G P).2 V
structure U6 (w W : World) (p : Int) (ao : Option Addr) (n cap : Nat) (po : Option Addr) (k pcap : Nat) (eo : Option Addr) (m ecap : Nat) (uo : Option Addr) (u ucap : Nat) (vo : Option Addr) (v vcap : Nat) : Prop where
  bel : Below w.heap.size w W
  g0 : W.cell? ⟨w.heap.size, 0, none⟩ = some (.int .i64 p)
  g1 : W.cell? ⟨w.heap.size, 1, none⟩ = some (.slice ao n cap)
  h0 : W.cell? ⟨w.heap.size + 1, 0, none⟩ = some (.slice po k pcap)
  h1 : W.cell? ⟨w.heap.size + 1, 1, none⟩ = some (.slice eo m ecap)
  m0 : W.cell? ⟨w.heap.size + 2, 0, none⟩ = some (.slice uo u ucap)
  m1 : W.cell? ⟨w.heap.size + 2, 1, none⟩ = some (.slice vo v vcap)
  sz : w.heap.size + 3 ≤ W.heap.size
theorem u6_new (w : World) {p : Int} {ao : Option Addr} {n cap : Nat} {po : Option Addr} {k pcap : Nat} {eo : Option Addr} {m ecap : Nat} {uo : Option Addr} {u ucap : Nat} {vo : Option Addr} {v vcap : Nat} : U6 w (((w.alloc (.cells #[.int .i64 p, .slice ao n cap] 26)).alloc (.cells #[.slice po k pcap, .slice eo m ecap] 30)).alloc (.cells #[.slice uo u ucap, .slice vo v vcap] 34)) p ao n cap po k pcap eo m ecap uo u ucap vo v vcap :=
  ⟨(((Below.refl _ _).alloc (Nat.le_refl _) _).alloc (by simp) _).alloc (by simp; omega) _, by simp [go_sem], by simp [go_sem], by simp [go_sem], by simp [go_sem], by simp [go_sem], by simp [go_sem], by simp⟩
theorem U6.next {w W W' : World} {p : Int} {ao : Option Addr} {n cap : Nat} {po : Option Addr} {k pcap : Nat} {eo : Option Addr} {m ecap : Nat} {uo : Option Addr} {u ucap : Nat} {vo : Option Addr} {v vcap : Nat} (h : U6 w W p ao n cap po k pcap eo m ecap uo u ucap vo v vcap) (hb : Below W.heap.size W W') : U6 w W' p ao n cap po k pcap eo m ecap uo u ucap vo v vcap :=
  ⟨below_next h.bel (Nat.le_refl _) hb, keep_cell hb (Nat.le_refl _) h.g0, keep_cell hb (Nat.le_refl _) h.g1, keep_cell hb (Nat.le_refl _) h.h0, keep_cell hb (Nat.le_refl _) h.h1, keep_cell hb (Nat.le_refl _) h.m0, keep_cell hb (Nat.le_refl _) h.m1, Nat.le_trans h.sz hb.size⟩

set_option maxRecDepth 100000 in
set_option maxHeartbeats 4000000 in
theorem isCustomized_any (p : Int) (ao : Option Addr) (n cap : Nat) (F T G : Nat → Int) (po : Option Addr) (k pcap : Nat) (P : Nat → Int) (eo : Option Addr) (m ecap : Nat) (L H : Nat → Int) (uo : Option Addr) (u ucap : Nat) (U : Nat → Int) (vo : Option Addr) (v vcap : Nat) (V : Nat → Int) (hn : n ≤ 1048576) (hk : k ≤ 1048576) (hm : m ≤ 1048576) (hu : u ≤ 1048576) (hv : v ≤ 1048576) (w : World) (hr : Row w ao n F T G) (hp : IRow w po k P) (he : ERow w eo m L H) (hU : IRow w uo u U) (hV : IRow w vo v V) :
    Calls Tryz.prog 65 #[.agg #[.int .i64 p, .slice ao n cap], .agg #[.slice po k pcap, .slice eo m ecap], .agg #[.slice uo u ucap, .slice vo v vcap]] w fun e w' => BAns e (IsC p n F T G k P m L H u U v V) ∧ Below w.heap.size w w' := by
  have HH := fun W h1 h2 h3 => implHierOk_any p ao n cap F T G po k pcap P eo m ecap L H hn hk hm W h1 h2 h3
  have HC := fun W h1 h2 h3 => implCustomize_any p ao n cap F T G po k pcap P eo m ecap L H hn hk hm W h1 h2 h3
  have B0 := (u6_new w (p := p) (ao := ao) (n := n) (cap := cap) (po := po) (k := k) (pcap := pcap) (eo := eo) (m := m) (ecap := ecap) (uo := uo) (u := u) (ucap := ucap) (vo := vo) (v := v) (vcap := vcap)).next (Below.refl _ _).drew
  go_enter Tryz.func65, Tryz.ntmps65
  go_wp2_with fail
  refine wp_region_held_drew (S := fun w' => U6 w w' p ao n cap po k pcap eo m ecap uo u ucap vo v vcap) (by kernel_rfl) B0 (fun hS => ?_)
  generalize (((w.alloc (.cells #[.int .i64 p, .slice ao n cap] 26)).alloc (.cells #[.slice po k pcap, .slice eo m ecap] 30)).alloc (.cells #[.slice uo u ucap, .slice vo v vcap] 34)).drew = W at B0 hS ⊢
  by_cases hH : HOk p n F T G k P m L H
  · rw [lenM_yes hH] at HC
    refine takeH 0 (some 7) (.agg #[.int .i64 p, .slice ao n cap]) rfl rfl (by kernel_rfl) (by kernel_rfl) (by kernel_rfl) (fun _ _ _ h => h) (by rfl) hS (fun w hSw => by have y0 := hSw.g0; have y1 := hSw.g1; have y2 := hSw.h0; have y3 := hSw.h1; have y4 := hSw.m0; have y5 := hSw.m1; go_split_ands; go_simp <;> first | rfl | omega | (intro h; exfalso; omega)) ?_
    simp only [Act.put, List.setIfInBounds_toArray, List.set_cons_zero, List.set_cons_succ]
    refine takeH 1 (some 8) (.agg #[.slice po k pcap, .slice eo m ecap]) rfl rfl (by kernel_rfl) (by kernel_rfl) (by kernel_rfl) (fun _ _ _ h => h) (by rfl) hS (fun w hSw => by have y0 := hSw.g0; have y1 := hSw.g1; have y2 := hSw.h0; have y3 := hSw.h1; have y4 := hSw.m0; have y5 := hSw.m1; go_split_ands; go_simp <;> first | rfl | omega | (intro h; exfalso; omega)) ?_
    simp only [Act.put, List.setIfInBounds_toArray, List.set_cons_zero, List.set_cons_succ]
    refine step1H 2 _ rfl (by kernel_rfl) (by rfl) ?_
    go_simp
    refine (HH _ (hr.below hS.bel (Nat.le_refl _)) (hp.below hS.bel (Nat.le_refl _)) (he.below hS.bel (Nat.le_refl _))).mono ?_
    rintro e x1 ⟨⟨b, rfl, hb⟩, hx1⟩
    obtain rfl : b = true := by cases b <;> simp_all
    have hS1 := U6.next hS hx1
    refine ⟨hS1, ?_⟩
    refine takeH 3 (some 10) (.bool true) rfl rfl (by kernel_rfl) (by kernel_rfl) (by kernel_rfl) (fun _ _ _ h => h) (by rfl) hS1 (fun w hSw => by have y0 := hSw.g0; have y1 := hSw.g1; have y2 := hSw.h0; have y3 := hSw.h1; have y4 := hSw.m0; have y5 := hSw.m1; go_split_ands; go_simp <;> first | rfl | omega | (intro h; exfalso; omega)) ?_
    simp only [Act.put, List.setIfInBounds_toArray, List.set_cons_zero, List.set_cons_succ]
    refine takeH 4 (some 11) (.agg #[.int .i64 p, .slice ao n cap]) rfl rfl (by kernel_rfl) (by kernel_rfl) (by kernel_rfl) (fun _ _ _ h => h) (by rfl) hS1 (fun w hSw => by have y0 := hSw.g0; have y1 := hSw.g1; have y2 := hSw.h0; have y3 := hSw.h1; have y4 := hSw.m0; have y5 := hSw.m1; go_split_ands; go_simp <;> first | rfl | omega | (intro h; exfalso; omega)) ?_
    simp only [Act.put, List.setIfInBounds_toArray, List.set_cons_zero, List.set_cons_succ]
    refine takeH 5 (some 12) (.agg #[.slice po k pcap, .slice eo m ecap]) rfl rfl (by kernel_rfl) (by kernel_rfl) (by kernel_rfl) (fun _ _ _ h => h) (by rfl) hS1 (fun w hSw => by have y0 := hSw.g0; have y1 := hSw.g1; have y2 := hSw.h0; have y3 := hSw.h1; have y4 := hSw.m0; have y5 := hSw.m1; go_split_ands; go_simp <;> first | rfl | omega | (intro h; exfalso; omega)) ?_
    simp only [Act.put, List.setIfInBounds_toArray, List.set_cons_zero, List.set_cons_succ]
    refine takeH 7 (some 14) (.agg #[.slice uo u ucap, .slice vo v vcap]) rfl rfl (by kernel_rfl) (by kernel_rfl) (by kernel_rfl) (fun _ _ _ h => h) (by rfl) hS1 (fun w hSw => by have y0 := hSw.g0; have y1 := hSw.g1; have y2 := hSw.h0; have y3 := hSw.h1; have y4 := hSw.m0; have y5 := hSw.m1; go_split_ands; go_simp <;> first | rfl | omega | (intro h; exfalso; omega)) ?_
    simp only [Act.put, List.setIfInBounds_toArray, List.set_cons_zero, List.set_cons_succ]
    refine step1H 6 _ rfl (by kernel_rfl) (by rfl) ?_
    go_simp
    refine (HC _ (hr.below hS1.bel (Nat.le_refl _)) (hp.below hS1.bel (Nat.le_refl _)) (he.below hS1.bel (Nat.le_refl _))).mono ?_
    rintro e x2 ⟨aX, cX, bX, dX, rfl, hX, _, hx2⟩
    have hS2 := U6.next hS1 hx2
    refine ⟨hS2, ?_⟩
    have r1 : IRow x2 aX m (cusT p n F T G P).1 := fun j hj => by
      obtain ⟨b, c, rfl, _, _, _, _, q5, _⟩ := hX (by omega)
      exact q5.row j hj
    have r2 : IRow x2 bX m (cusT p n F T G P).2 := fun j hj => by
      obtain ⟨b, c, _, rfl, _, _, _, _, q6⟩ := hX (by omega)
      exact q6.row j hj
    refine step1H 8 _ rfl (by kernel_rfl) (by rfl) ?_
    go_simp
    refine (sameMetric_any aX m cX _ bX m dX _ uo u ucap U vo v vcap V hm hm hu hv _ r1 r2 (hU.below hS2.bel (Nat.le_refl _)) (hV.below hS2.bel (Nat.le_refl _))).mono ?_
    rintro e x3 ⟨⟨b, rfl, hb2⟩, hx3⟩
    have hS3 := U6.next hS2 hx3
    refine ⟨hS3, ?_⟩
    refine takeH 9 (some 16) (.bool b) rfl rfl (by kernel_rfl) (by kernel_rfl) (by kernel_rfl) (fun _ _ _ h => h) (by rfl) hS3 (fun w hSw => by have y0 := hSw.g0; have y1 := hSw.g1; have y2 := hSw.h0; have y3 := hSw.h1; have y4 := hSw.m0; have y5 := hSw.m1; go_split_ands; go_simp <;> first | rfl | omega | (intro h; exfalso; omega)) ?_
    simp only [Act.put, List.setIfInBounds_toArray, List.set_cons_zero, List.set_cons_succ]
    refine takeH 10 (some 6) (.bool b) rfl rfl (by kernel_rfl) (by kernel_rfl) (by kernel_rfl) (fun _ _ _ h => h) (by rfl) hS3 (fun w hSw => by have y0 := hSw.g0; have y1 := hSw.g1; have y2 := hSw.h0; have y3 := hSw.h1; have y4 := hSw.m0; have y5 := hSw.m1; go_split_ands; go_simp <;> first | rfl | omega | (intro h; exfalso; omega)) ?_
    simp only [Act.put, List.setIfInBounds_toArray, List.set_cons_zero, List.set_cons_succ]
    refine wpAnyH_done (by kernel_rfl) ?_ _
    go_wp2
    go_ret
    exact ⟨⟨b, rfl, by rw [hb2]; exact ⟨fun h => ⟨hH, h⟩, fun h => h.2⟩⟩, hS3.bel⟩
  · refine takeH 0 (some 7) (.agg #[.int .i64 p, .slice ao n cap]) rfl rfl (by kernel_rfl) (by kernel_rfl) (by kernel_rfl) (fun _ _ _ h => h) (by rfl) hS (fun w hSw => by have y0 := hSw.g0; have y1 := hSw.g1; have y2 := hSw.h0; have y3 := hSw.h1; have y4 := hSw.m0; have y5 := hSw.m1; go_split_ands; go_simp <;> first | rfl | omega | (intro h; exfalso; omega)) ?_
    simp only [Act.put, List.setIfInBounds_toArray, List.set_cons_zero, List.set_cons_succ]
    refine takeH 1 (some 8) (.agg #[.slice po k pcap, .slice eo m ecap]) rfl rfl (by kernel_rfl) (by kernel_rfl) (by kernel_rfl) (fun _ _ _ h => h) (by rfl) hS (fun w hSw => by have y0 := hSw.g0; have y1 := hSw.g1; have y2 := hSw.h0; have y3 := hSw.h1; have y4 := hSw.m0; have y5 := hSw.m1; go_split_ands; go_simp <;> first | rfl | omega | (intro h; exfalso; omega)) ?_
    simp only [Act.put, List.setIfInBounds_toArray, List.set_cons_zero, List.set_cons_succ]
    refine step1H 2 _ rfl (by kernel_rfl) (by rfl) ?_
    go_simp
    refine (HH _ (hr.below hS.bel (Nat.le_refl _)) (hp.below hS.bel (Nat.le_refl _)) (he.below hS.bel (Nat.le_refl _))).mono ?_
    rintro e x1 ⟨⟨b, rfl, hb⟩, hx1⟩
    obtain rfl : b = false := by cases b <;> simp_all
    have hS1 := U6.next hS hx1
    refine ⟨hS1, ?_⟩
    refine takeH 3 (some 10) (.bool false) rfl rfl (by kernel_rfl) (by kernel_rfl) (by kernel_rfl) (fun _ _ _ h => h) (by rfl) hS1 (fun w hSw => by have y0 := hSw.g0; have y1 := hSw.g1; have y2 := hSw.h0; have y3 := hSw.h1; have y4 := hSw.m0; have y5 := hSw.m1; go_split_ands; go_simp <;> first | rfl | omega | (intro h; exfalso; omega)) ?_
    simp only [Act.put, List.setIfInBounds_toArray, List.set_cons_zero, List.set_cons_succ]
    refine skipH 4 (some 11) rfl rfl (by kernel_rfl) (by kernel_rfl) (by kernel_rfl) (fun _ _ _ h => h) (by rfl) hS1 ?_
    simp only [Act.put, List.setIfInBounds_toArray, List.set_cons_zero, List.set_cons_succ]
    refine skipH 5 (some 12) rfl rfl (by kernel_rfl) (by kernel_rfl) (by kernel_rfl) (fun _ _ _ h => h) (by rfl) hS1 ?_
    simp only [Act.put, List.setIfInBounds_toArray, List.set_cons_zero, List.set_cons_succ]
    refine skipH 6 (some 13) rfl rfl (by kernel_rfl) (by kernel_rfl) (by kernel_rfl) (fun _ _ _ h => h) (by rfl) hS1 ?_
    simp only [Act.put, List.setIfInBounds_toArray, List.set_cons_zero, List.set_cons_succ]
    refine skipH 7 (some 14) rfl rfl (by kernel_rfl) (by kernel_rfl) (by kernel_rfl) (fun _ _ _ h => h) (by rfl) hS1 ?_
    simp only [Act.put, List.setIfInBounds_toArray, List.set_cons_zero, List.set_cons_succ]
    refine skipH 8 (some 15) rfl rfl (by kernel_rfl) (by kernel_rfl) (by kernel_rfl) (fun _ _ _ h => h) (by rfl) hS1 ?_
    simp only [Act.put, List.setIfInBounds_toArray, List.set_cons_zero, List.set_cons_succ]
    refine takeH 9 (some 16) (.bool false) rfl rfl (by kernel_rfl) (by kernel_rfl) (by kernel_rfl) (fun _ _ _ h => h) (by rfl) hS1 (fun w hSw => by have y0 := hSw.g0; have y1 := hSw.g1; have y2 := hSw.h0; have y3 := hSw.h1; have y4 := hSw.m0; have y5 := hSw.m1; go_split_ands; go_simp <;> first | rfl | omega | (intro h; exfalso; omega)) ?_
    simp only [Act.put, List.setIfInBounds_toArray, List.set_cons_zero, List.set_cons_succ]
    refine takeH 10 (some 6) (.bool false) rfl rfl (by kernel_rfl) (by kernel_rfl) (by kernel_rfl) (fun _ _ _ h => h) (by rfl) hS1 (fun w hSw => by have y0 := hSw.g0; have y1 := hSw.g1; have y2 := hSw.h0; have y3 := hSw.h1; have y4 := hSw.m0; have y5 := hSw.m1; go_split_ands; go_simp <;> first | rfl | omega | (intro h; exfalso; omega)) ?_
    simp only [Act.put, List.setIfInBounds_toArray, List.set_cons_zero, List.set_cons_succ]
    refine wpAnyH_done (by kernel_rfl) ?_ _
    go_wp2
    go_ret
    exact ⟨bans_no fun h => hH h.1, hS1.bel⟩

end Go.Proofs.YtokaechbmnbbiabGreat
