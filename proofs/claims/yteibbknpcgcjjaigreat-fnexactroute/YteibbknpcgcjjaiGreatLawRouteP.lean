/-
  Proved: at every map, every hierarchy, every metric and every two places the law FnExactRoute answers true, and its arguments read behind the call as they read before. No condition.
-/
import Derived.Test.YteibbknpcgcjjaiGreatRtZP
import Derived.Test.YteibbknpcgcjjaiGreatRtDP
import Derived.Test.YteibbknpcgcjjaiGreatPack11
import Derived.Test.YteibbknpcgcjjaiGreatPack12
import Derived.Test.YteibbknpcgcjjaiGreatPack13
set_option linter.unusedVariables false
set_option linter.unusedSimpArgs false
namespace Go.Proofs.YteibbknpcgcjjaiGreat
open Go.ChangeShapes Go.WideShapes Go.ChangeAt Go.RowKit Go.Deep Go.Joins
attribute [local go_sem ↓] Go.wp_at_zero Go.wp_at_succ

set_option maxRecDepth 100000 in
set_option maxHeartbeats 8000000 in
theorem lawRoute_walk (p : Int) (ao : Option Addr) (n cap : Nat) (F T G : Nat → Int) (po : Option Addr) (k pcap : Nat) (P : Nat → Int) (eo : Option Addr) (m ecap : Nat) (L H : Nat → Int) (uo : Option Addr) (u ucap : Nat) (U : Nat → Int) (vo : Option Addr) (v vcap : Nat) (V : Nat → Int) (ds : Int) (es : Int) (hnM : n ≤ maxLen) (hkM : k ≤ maxLen) (hmM : m ≤ maxLen) (huM : u ≤ maxLen) (hvM : v ≤ maxLen) (w : World) (hr : Row w ao n F T G) (hp : IRow w po k P) (he : ERow w eo m L H) (hu : IRow w uo u U) (hv : IRow w vo v V) :
    Calls Tryz.prog 3 #[.agg #[.int .i64 p, .slice ao n cap], .agg #[.slice po k pcap, .slice eo m ecap], .agg #[.slice uo u ucap, .slice vo v vcap], .int .i64 ds, .int .i64 es] w fun e w' => e = .returned (.bool true) ∧ Below w.heap.size w w' := by
  unfold maxLen at hnM hkM hmM huM hvM
  by_cases hbig0 : 1048576 < 0 + (n : Int)
  · go_enter Tryz.func3, Tryz.ntmps3
    have hB0 : Below w.heap.size w (((w.alloc (.cells #[.int .i64 p, .slice ao n cap] 24)).alloc (.cells #[.slice po k pcap, .slice eo m ecap] 28)).alloc (.cells #[.slice uo u ucap, .slice vo v vcap] 30)) := ((((Below.refl _ w).alloc (Nat.le_refl _) _).alloc (by simp) _).alloc (by simp; omega) _)
    go_wp2_with fail
    refine (szGraph_out p ao n cap (1048576) (by omega) (by omega) (by omega) (by omega) _).mono ?_
    rintro e z0 ⟨rfl, hz0⟩
    replace hB0 := below_next hB0 (Nat.le_refl _) hz0
    go_wp2
    go_ret
    exact ⟨rfl, hB0⟩
  by_cases hbig1 : 1048576 < (n : Int) + (k : Int) + (m : Int)
  · go_enter Tryz.func3, Tryz.ntmps3
    have hB0 : Below w.heap.size w (((w.alloc (.cells #[.int .i64 p, .slice ao n cap] 24)).alloc (.cells #[.slice po k pcap, .slice eo m ecap] 28)).alloc (.cells #[.slice uo u ucap, .slice vo v vcap] 30)) := ((((Below.refl _ w).alloc (Nat.le_refl _) _).alloc (by simp) _).alloc (by simp; omega) _)
    go_wp2_with fail
    refine (szGraph_in p ao n cap (1048576) (by omega) (by omega) _).mono ?_
    rintro e z0 ⟨rfl, hz0⟩
    replace hB0 := below_next hB0 (Nat.le_refl _) hz0
    have y000 := keep_cell hz0 (Nat.le_refl _) (b := w.heap.size) (o := 0) (by simp [go_sem]; rfl)
    have y001 := keep_cell hz0 (Nat.le_refl _) (b := w.heap.size) (o := 1) (by simp [go_sem]; rfl)
    have y010 := keep_cell hz0 (Nat.le_refl _) (b := w.heap.size + 1) (o := 0) (by simp [go_sem]; rfl)
    have y011 := keep_cell hz0 (Nat.le_refl _) (b := w.heap.size + 1) (o := 1) (by simp [go_sem]; rfl)
    have y020 := keep_cell hz0 (Nat.le_refl _) (b := w.heap.size + 1 + 1) (o := 0) (by simp [go_sem]; rfl)
    have y021 := keep_cell hz0 (Nat.le_refl _) (b := w.heap.size + 1 + 1) (o := 1) (by simp [go_sem]; rfl)
    go_wp2_with fail
    refine (szHier_out po k pcap eo m ecap (1048576 - n) (by omega) (by omega) (by omega) (by omega) (by omega) _).mono ?_
    rintro e z1 ⟨rfl, hz1⟩
    replace hB0 := below_next hB0 (Nat.le_refl _) hz1
    go_wp2
    go_ret
    exact ⟨rfl, hB0⟩
  by_cases hbig2 : 1048576 < (n : Int) + (k : Int) + (m : Int) + (u : Int) + (v : Int)
  · go_enter Tryz.func3, Tryz.ntmps3
    have hB0 : Below w.heap.size w (((w.alloc (.cells #[.int .i64 p, .slice ao n cap] 24)).alloc (.cells #[.slice po k pcap, .slice eo m ecap] 28)).alloc (.cells #[.slice uo u ucap, .slice vo v vcap] 30)) := ((((Below.refl _ w).alloc (Nat.le_refl _) _).alloc (by simp) _).alloc (by simp; omega) _)
    go_wp2_with fail
    refine (szGraph_in p ao n cap (1048576) (by omega) (by omega) _).mono ?_
    rintro e z0 ⟨rfl, hz0⟩
    replace hB0 := below_next hB0 (Nat.le_refl _) hz0
    have y000 := keep_cell hz0 (Nat.le_refl _) (b := w.heap.size) (o := 0) (by simp [go_sem]; rfl)
    have y001 := keep_cell hz0 (Nat.le_refl _) (b := w.heap.size) (o := 1) (by simp [go_sem]; rfl)
    have y010 := keep_cell hz0 (Nat.le_refl _) (b := w.heap.size + 1) (o := 0) (by simp [go_sem]; rfl)
    have y011 := keep_cell hz0 (Nat.le_refl _) (b := w.heap.size + 1) (o := 1) (by simp [go_sem]; rfl)
    have y020 := keep_cell hz0 (Nat.le_refl _) (b := w.heap.size + 1 + 1) (o := 0) (by simp [go_sem]; rfl)
    have y021 := keep_cell hz0 (Nat.le_refl _) (b := w.heap.size + 1 + 1) (o := 1) (by simp [go_sem]; rfl)
    go_wp2_with fail
    refine (szHier_in po k pcap eo m ecap (1048576 - n) (by omega) (by omega) _).mono ?_
    rintro e z1 ⟨rfl, hz1⟩
    replace hB0 := below_next hB0 (Nat.le_refl _) hz1
    have y100 := keep_cell hz1 (Nat.le_refl _) (b := w.heap.size) (o := 0) y000
    have y101 := keep_cell hz1 (Nat.le_refl _) (b := w.heap.size) (o := 1) y001
    have y110 := keep_cell hz1 (Nat.le_refl _) (b := w.heap.size + 1) (o := 0) y010
    have y111 := keep_cell hz1 (Nat.le_refl _) (b := w.heap.size + 1) (o := 1) y011
    have y120 := keep_cell hz1 (Nat.le_refl _) (b := w.heap.size + 1 + 1) (o := 0) y020
    have y121 := keep_cell hz1 (Nat.le_refl _) (b := w.heap.size + 1 + 1) (o := 1) y021
    go_wp2_with fail
    refine (szMetric_out uo u ucap vo v vcap (1048576 - n - k - m) (by omega) (by omega) (by omega) (by omega) (by omega) _).mono ?_
    rintro e z2 ⟨rfl, hz2⟩
    replace hB0 := below_next hB0 (Nat.le_refl _) hz2
    go_wp2
    go_ret
    exact ⟨rfl, hB0⟩
  have hn : n ≤ 1048576 := by omega
  have hk : k ≤ 1048576 := by omega
  have hm : m ≤ 1048576 := by omega
  have hu9 : u ≤ 1048576 := by omega
  have hv9 : v ≤ 1048576 := by omega
  obtain ⟨N, hN⟩ : ∃ N, (rtA p n F T G k P m L H u U v V ds es).1.length = N := ⟨_, rfl⟩
  obtain ⟨D, hD⟩ : ∃ D : Nat → Int, (fun j => (rtA p n F T G k P m L H u U v V ds es).1.getD j 0) = D := ⟨_, rfl⟩
  obtain ⟨zz, hzz⟩ : ∃ z, (rtA p n F T G k P m L H u U v V ds es).2 = z := ⟨_, rfl⟩
  have hN9 : N ≤ 1000000000 := by rw [← hN]; exact rtA_len ..
  have HSP : Hid (∀ ao' cap' po' pcap' eo' ecap' uo' ucap' vo' vcap' W, Row W ao' n F T G → IRow W po' k P → ERow W eo' m L H → IRow W uo' u U → IRow W vo' v V → Calls Tryz.prog 8 #[.agg #[.int .i64 p, .slice ao' n cap'], .agg #[.slice po' k pcap', .slice eo' m ecap'], .agg #[.slice uo' u ucap', .slice vo' v vcap'], .int .i64 ds, .int .i64 es] W fun e w' => AnsI W w' e N D zz) := fun ao' cap' po' pcap' eo' ecap' uo' ucap' vo' vcap' W h1 h2 h3 h4 h5 => by rw [← hN, ← hD, ← hzz]; exact (specRoute_any p ao' n cap' F T G po' k pcap' P eo' m ecap' L H uo' u ucap' U vo' v vcap' V ds es hn hk hm hu9 hv9 W h1 h2 h3 h4 h5).mono fun e w' h => ansI_of_rt h
  have HIM : Hid (∀ ao' cap' po' pcap' eo' ecap' uo' ucap' vo' vcap' W, Row W ao' n F T G → IRow W po' k P → ERow W eo' m L H → IRow W uo' u U → IRow W vo' v V → Calls Tryz.prog 12 #[.agg #[.int .i64 p, .slice ao' n cap'], .agg #[.slice po' k pcap', .slice eo' m ecap'], .agg #[.slice uo' u ucap', .slice vo' v vcap'], .int .i64 ds, .int .i64 es] W fun e w' => AnsI W w' e N D zz) := fun ao' cap' po' pcap' eo' ecap' uo' ucap' vo' vcap' W h1 h2 h3 h4 h5 => by rw [← hN, ← hD, ← hzz]; exact (implRoute_any p ao' n cap' F T G po' k pcap' P eo' m ecap' L H uo' u ucap' U vo' v vcap' V ds es hn hk hm hu9 hv9 W h1 h2 h3 h4 h5).mono fun e w' h => ansI_of_rt h
  clear hN hD hzz
  go_enter Tryz.func3, Tryz.ntmps3
  have hB : Below w.heap.size w (((w.alloc (.cells #[.int .i64 p, .slice ao n cap] 24)).alloc (.cells #[.slice po k pcap, .slice eo m ecap] 28)).alloc (.cells #[.slice uo u ucap, .slice vo v vcap] 30)) := ((((Below.refl _ w).alloc (Nat.le_refl _) _).alloc (by simp) _).alloc (by simp; omega) _)
  have y00 : (((w.alloc (.cells #[.int .i64 p, .slice ao n cap] 24)).alloc (.cells #[.slice po k pcap, .slice eo m ecap] 28)).alloc (.cells #[.slice uo u ucap, .slice vo v vcap] 30)).cell? ⟨w.heap.size, 0, none⟩ = some (.int .i64 p) := by simp [go_sem]
  have y01 : (((w.alloc (.cells #[.int .i64 p, .slice ao n cap] 24)).alloc (.cells #[.slice po k pcap, .slice eo m ecap] 28)).alloc (.cells #[.slice uo u ucap, .slice vo v vcap] 30)).cell? ⟨w.heap.size, 1, none⟩ = some (.slice ao n cap) := by simp [go_sem]
  have y10 : (((w.alloc (.cells #[.int .i64 p, .slice ao n cap] 24)).alloc (.cells #[.slice po k pcap, .slice eo m ecap] 28)).alloc (.cells #[.slice uo u ucap, .slice vo v vcap] 30)).cell? ⟨w.heap.size + 1, 0, none⟩ = some (.slice po k pcap) := by simp [go_sem]
  have y11 : (((w.alloc (.cells #[.int .i64 p, .slice ao n cap] 24)).alloc (.cells #[.slice po k pcap, .slice eo m ecap] 28)).alloc (.cells #[.slice uo u ucap, .slice vo v vcap] 30)).cell? ⟨w.heap.size + 1, 1, none⟩ = some (.slice eo m ecap) := by simp [go_sem]
  have y20 : (((w.alloc (.cells #[.int .i64 p, .slice ao n cap] 24)).alloc (.cells #[.slice po k pcap, .slice eo m ecap] 28)).alloc (.cells #[.slice uo u ucap, .slice vo v vcap] 30)).cell? ⟨w.heap.size + 1 + 1, 0, none⟩ = some (.slice uo u ucap) := by simp [go_sem]
  have y21 : (((w.alloc (.cells #[.int .i64 p, .slice ao n cap] 24)).alloc (.cells #[.slice po k pcap, .slice eo m ecap] 28)).alloc (.cells #[.slice uo u ucap, .slice vo v vcap] 30)).cell? ⟨w.heap.size + 1 + 1, 1, none⟩ = some (.slice vo v vcap) := by simp [go_sem]
  have sz0 : (((w.alloc (.cells #[.int .i64 p, .slice ao n cap] 24)).alloc (.cells #[.slice po k pcap, .slice eo m ecap] 28)).alloc (.cells #[.slice uo u ucap, .slice vo v vcap] 30)).heap.size = w.heap.size + 3 := by simp
  go_wp2_with fail
  refine (szGraph_in p ao n cap (1048576) (by omega) (by omega) _).mono ?_
  rintro e w1 ⟨rfl, hbz⟩
  replace y00 := keep_cell hbz (Nat.le_refl _) y00
  replace y01 := keep_cell hbz (Nat.le_refl _) y01
  replace y10 := keep_cell hbz (Nat.le_refl _) y10
  replace y11 := keep_cell hbz (Nat.le_refl _) y11
  replace y20 := keep_cell hbz (Nat.le_refl _) y20
  replace y21 := keep_cell hbz (Nat.le_refl _) y21
  replace hB := below_next hB (Nat.le_refl _) hbz
  have sz1 := hbz.size
  clear hbz
  go_wp2_with fail
  refine (szHier_in po k pcap eo m ecap (1048576 - n) (by omega) (by omega) _).mono ?_
  rintro e w2 ⟨rfl, hbz⟩
  replace y00 := keep_cell hbz (Nat.le_refl _) y00
  replace y01 := keep_cell hbz (Nat.le_refl _) y01
  replace y10 := keep_cell hbz (Nat.le_refl _) y10
  replace y11 := keep_cell hbz (Nat.le_refl _) y11
  replace y20 := keep_cell hbz (Nat.le_refl _) y20
  replace y21 := keep_cell hbz (Nat.le_refl _) y21
  replace hB := below_next hB (Nat.le_refl _) hbz
  have sz2 := hbz.size
  clear hbz
  go_wp2_with fail
  refine (szMetric_in uo u ucap vo v vcap (1048576 - n - k - m) (by omega) (by omega) _).mono ?_
  rintro e w3 ⟨rfl, hbz⟩
  replace y00 := keep_cell hbz (Nat.le_refl _) y00
  replace y01 := keep_cell hbz (Nat.le_refl _) y01
  replace y10 := keep_cell hbz (Nat.le_refl _) y10
  replace y11 := keep_cell hbz (Nat.le_refl _) y11
  replace y20 := keep_cell hbz (Nat.le_refl _) y20
  replace y21 := keep_cell hbz (Nat.le_refl _) y21
  replace hB := below_next hB (Nat.le_refl _) hbz
  have sz3 := hbz.size
  clear hbz
  go_wp2_with fail
  have hbd := (Below.refl w3.heap.size w3).drew
  replace y00 := keep_cell hbd (Nat.le_refl _) y00
  replace y01 := keep_cell hbd (Nat.le_refl _) y01
  replace y10 := keep_cell hbd (Nat.le_refl _) y10
  replace y11 := keep_cell hbd (Nat.le_refl _) y11
  replace y20 := keep_cell hbd (Nat.le_refl _) y20
  replace y21 := keep_cell hbd (Nat.le_refl _) y21
  replace hB := below_next hB (Nat.le_refl _) hbd
  have sz3 := hbd.size
  clear hbd
  go_region_held3 (fun w' => w'.cell? ⟨w.heap.size, 0, none⟩ = some (.int .i64 p) ∧ w'.cell? ⟨w.heap.size, 1, none⟩ = some (.slice ao n cap) ∧ w'.cell? ⟨w.heap.size + 1, 0, none⟩ = some (.slice po k pcap) ∧ w'.cell? ⟨w.heap.size + 1, 1, none⟩ = some (.slice eo m ecap) ∧ w'.cell? ⟨w.heap.size + 1 + 1, 0, none⟩ = some (.slice uo u ucap) ∧ w'.cell? ⟨w.heap.size + 1 + 1, 1, none⟩ = some (.slice vo v vcap))
    (first | (go_split_ands; refine ⟨?_, ?_, ?_, ?_, ?_, ?_⟩ <;> exact keep_cell hbF (Nat.le_refl _) (by assumption)) | (go_split_ands; refine ⟨?_, ?_, ?_, ?_, ?_, ?_⟩ <;> exact keep_cell hbs2 (Nat.le_refl _) (by assumption)) | (go_split_ands; refine ⟨?_, ?_, ?_, ?_, ?_, ?_⟩ <;> exact keep_cell hbs1 (Nat.le_refl _) (by assumption)) | (go_split_ands; refine ⟨?_, ?_, ?_, ?_, ?_, ?_⟩ <;> exact keep_cell hbs0 (Nat.le_refl _) (by assumption)) | go_keep)
    (first | (go_at_call 9; refine (toGraph_any p ao n cap F T G hn _ (hr.below hB (Nat.le_refl _))).mono ?_; rintro e w4 ⟨bs0, rfl, hls0, os0, hbs0⟩; have hBs0 := below_next hB (Nat.le_refl _) hbs0) | (go_at_call 10; refine (toHier_any po k pcap P eo m ecap L H hk hm _ (hp.below hBs0 (Nat.le_refl _)) (he.below hBs0 (Nat.le_refl _))).mono ?_; rintro e w5 ⟨bs1, cs1, rfl, hls1, hms1, os1, os1c, hbs1⟩; have hBs1 := below_next hBs0 (Nat.le_refl _) hbs1) | (go_at_call 11; refine (toMetric_any uo u ucap U vo v vcap V hu9 hv9 _ (hu.below hBs1 (Nat.le_refl _)) (hv.below hBs1 (Nat.le_refl _))).mono ?_; rintro e w6 ⟨bs2, cs2, rfl, hls2, hms2, os2, os2c, hbs2⟩; have hBs2 := below_next hBs1 (Nat.le_refl _) hbs2) | (go_at_call 8; refine (HSP.out _ _ _ _ _ _ _ _ _ _ _ ((os0.row.below hbs1 (Nat.le_refl _)).below hbs2 (Nat.le_refl _)) (os1.row.below hbs2 (Nat.le_refl _)) (os1c.row.below hbs2 (Nat.le_refl _)) os2.row os2c.row).mono ?_; rintro e w7 ⟨aoW, capW, rfl, hW, hbF⟩))
  replace y00 := keep_cell hbs0 (Nat.le_refl _) y00
  replace y01 := keep_cell hbs0 (Nat.le_refl _) y01
  replace y10 := keep_cell hbs0 (Nat.le_refl _) y10
  replace y11 := keep_cell hbs0 (Nat.le_refl _) y11
  replace y20 := keep_cell hbs0 (Nat.le_refl _) y20
  replace y21 := keep_cell hbs0 (Nat.le_refl _) y21
  replace hB := below_next hB (Nat.le_refl _) hbs0
  have szw4 := hbs0.size
  replace y00 := keep_cell hbs1 (Nat.le_refl _) y00
  replace y01 := keep_cell hbs1 (Nat.le_refl _) y01
  replace y10 := keep_cell hbs1 (Nat.le_refl _) y10
  replace y11 := keep_cell hbs1 (Nat.le_refl _) y11
  replace y20 := keep_cell hbs1 (Nat.le_refl _) y20
  replace y21 := keep_cell hbs1 (Nat.le_refl _) y21
  replace hB := below_next hB (Nat.le_refl _) hbs1
  have szw5 := hbs1.size
  replace y00 := keep_cell hbs2 (Nat.le_refl _) y00
  replace y01 := keep_cell hbs2 (Nat.le_refl _) y01
  replace y10 := keep_cell hbs2 (Nat.le_refl _) y10
  replace y11 := keep_cell hbs2 (Nat.le_refl _) y11
  replace y20 := keep_cell hbs2 (Nat.le_refl _) y20
  replace y21 := keep_cell hbs2 (Nat.le_refl _) y21
  replace hB := below_next hB (Nat.le_refl _) hbs2
  have szw6 := hbs2.size
  replace y00 := keep_cell hbF (Nat.le_refl _) y00
  replace y01 := keep_cell hbF (Nat.le_refl _) y01
  replace y10 := keep_cell hbF (Nat.le_refl _) y10
  replace y11 := keep_cell hbF (Nat.le_refl _) y11
  replace y20 := keep_cell hbF (Nat.le_refl _) y20
  replace y21 := keep_cell hbF (Nat.le_refl _) y21
  replace hB := below_next hB (Nat.le_refl _) hbF
  have szw7 := hbF.size
  clear hBs0 hBs1 hBs2
  obtain ⟨bW, eW, iW, lW, uW⟩ := pick1 hW (fun _ h => h.lt)
  clear hW hbF hls0 hls1 hms1 hls2 hms2 os0 os1 os1c os2 os2c hbs0 hbs1 hbs2
  go_wp2_with fail
  refine (toGraph_any p ao n cap F T G hn _ (hr.below hB (Nat.le_refl _))).mono ?_
  rintro e w8 ⟨b0, rfl, hl0, o0, hb0⟩
  replace y00 := keep_cell hb0 (Nat.le_refl _) y00
  replace y01 := keep_cell hb0 (Nat.le_refl _) y01
  replace y10 := keep_cell hb0 (Nat.le_refl _) y10
  replace y11 := keep_cell hb0 (Nat.le_refl _) y11
  replace y20 := keep_cell hb0 (Nat.le_refl _) y20
  replace y21 := keep_cell hb0 (Nat.le_refl _) y21
  replace iW := fun x => (iW x).below hb0 (iW x).lt
  replace hB := below_next hB (Nat.le_refl _) hb0
  have szw8 := hb0.size
  clear hb0
  replace o0 := Has.of_own o0
  have o0l := o0.lt
  have hal9 := (Below.refl w8.heap.size w8).alloc (Nat.le_refl _) (.cells #[.int .i64 p, .slice (some ⟨b0, 0, none⟩) n n] 38)
  replace y00 := keep_cell hal9 (Nat.le_refl _) y00
  replace y01 := keep_cell hal9 (Nat.le_refl _) y01
  replace y10 := keep_cell hal9 (Nat.le_refl _) y10
  replace y11 := keep_cell hal9 (Nat.le_refl _) y11
  replace y20 := keep_cell hal9 (Nat.le_refl _) y20
  replace y21 := keep_cell hal9 (Nat.le_refl _) y21
  replace iW := fun x => (iW x).below hal9 (iW x).lt
  replace o0 := o0.below hal9 o0.lt
  replace hB := below_next hB (Nat.le_refl _) hal9
  have z00 : (w8.alloc (.cells #[.int .i64 p, .slice (some ⟨b0, 0, none⟩) n n] 38)).cell? ⟨w8.heap.size, 0, none⟩ = some (.int .i64 p) := by simp [go_sem]
  have z01 : (w8.alloc (.cells #[.int .i64 p, .slice (some ⟨b0, 0, none⟩) n n] 38)).cell? ⟨w8.heap.size, 1, none⟩ = some (.slice (some ⟨b0, 0, none⟩) n n) := by simp [go_sem]
  have sz9 : (w8.alloc (.cells #[.int .i64 p, .slice (some ⟨b0, 0, none⟩) n n] 38)).heap.size = w8.heap.size + 1 := by simp
  clear hal9
  go_wp2_with fail
  refine (toHier_any po k pcap P eo m ecap L H hk hm _ (hp.below hB (Nat.le_refl _)) (he.below hB (Nat.le_refl _))).mono ?_
  rintro e w10 ⟨b1, c1, rfl, hl1, hm1, o1, o1c, hb1⟩
  replace y00 := keep_cell hb1 (Nat.le_refl _) y00
  replace y01 := keep_cell hb1 (Nat.le_refl _) y01
  replace y10 := keep_cell hb1 (Nat.le_refl _) y10
  replace y11 := keep_cell hb1 (Nat.le_refl _) y11
  replace y20 := keep_cell hb1 (Nat.le_refl _) y20
  replace y21 := keep_cell hb1 (Nat.le_refl _) y21
  replace iW := fun x => (iW x).below hb1 (iW x).lt
  replace o0 := o0.below hb1 o0.lt
  replace z00 := keep_cell hb1 (Nat.le_refl _) z00
  replace z01 := keep_cell hb1 (Nat.le_refl _) z01
  replace hB := below_next hB (Nat.le_refl _) hb1
  have szw10 := hb1.size
  clear hb1
  have o1l := o1.lt
  have o1cl := o1c.lt
  have hal11 := (Below.refl w10.heap.size w10).alloc (Nat.le_refl _) (.cells #[.slice (some ⟨b1, 0, none⟩) k k, .slice (some ⟨c1, 0, none⟩) m m] 42)
  replace y00 := keep_cell hal11 (Nat.le_refl _) y00
  replace y01 := keep_cell hal11 (Nat.le_refl _) y01
  replace y10 := keep_cell hal11 (Nat.le_refl _) y10
  replace y11 := keep_cell hal11 (Nat.le_refl _) y11
  replace y20 := keep_cell hal11 (Nat.le_refl _) y20
  replace y21 := keep_cell hal11 (Nat.le_refl _) y21
  replace iW := fun x => (iW x).below hal11 (iW x).lt
  replace o0 := o0.below hal11 o0.lt
  replace z00 := keep_cell hal11 (Nat.le_refl _) z00
  replace z01 := keep_cell hal11 (Nat.le_refl _) z01
  replace o1 := o1.below hal11 o1.lt
  replace o1c := o1c.below hal11 o1c.lt
  replace hB := below_next hB (Nat.le_refl _) hal11
  have z10 : (w10.alloc (.cells #[.slice (some ⟨b1, 0, none⟩) k k, .slice (some ⟨c1, 0, none⟩) m m] 42)).cell? ⟨w10.heap.size, 0, none⟩ = some (.slice (some ⟨b1, 0, none⟩) k k) := by simp [go_sem]
  have z11 : (w10.alloc (.cells #[.slice (some ⟨b1, 0, none⟩) k k, .slice (some ⟨c1, 0, none⟩) m m] 42)).cell? ⟨w10.heap.size, 1, none⟩ = some (.slice (some ⟨c1, 0, none⟩) m m) := by simp [go_sem]
  have sz11 : (w10.alloc (.cells #[.slice (some ⟨b1, 0, none⟩) k k, .slice (some ⟨c1, 0, none⟩) m m] 42)).heap.size = w10.heap.size + 1 := by simp
  clear hal11
  go_wp2_with fail
  refine (toMetric_any uo u ucap U vo v vcap V hu9 hv9 _ (hu.below hB (Nat.le_refl _)) (hv.below hB (Nat.le_refl _))).mono ?_
  rintro e w12 ⟨b2, c2, rfl, hl2, hm2, o2, o2c, hb2⟩
  replace y00 := keep_cell hb2 (Nat.le_refl _) y00
  replace y01 := keep_cell hb2 (Nat.le_refl _) y01
  replace y10 := keep_cell hb2 (Nat.le_refl _) y10
  replace y11 := keep_cell hb2 (Nat.le_refl _) y11
  replace y20 := keep_cell hb2 (Nat.le_refl _) y20
  replace y21 := keep_cell hb2 (Nat.le_refl _) y21
  replace iW := fun x => (iW x).below hb2 (iW x).lt
  replace o0 := o0.below hb2 o0.lt
  replace z00 := keep_cell hb2 (Nat.le_refl _) z00
  replace z01 := keep_cell hb2 (Nat.le_refl _) z01
  replace o1 := o1.below hb2 o1.lt
  replace o1c := o1c.below hb2 o1c.lt
  replace z10 := keep_cell hb2 (Nat.le_refl _) z10
  replace z11 := keep_cell hb2 (Nat.le_refl _) z11
  replace hB := below_next hB (Nat.le_refl _) hb2
  have szw12 := hb2.size
  clear hb2
  have o2l := o2.lt
  have o2cl := o2c.lt
  have hal13 := (Below.refl w12.heap.size w12).alloc (Nat.le_refl _) (.cells #[.slice (some ⟨b2, 0, none⟩) u u, .slice (some ⟨c2, 0, none⟩) v v] 44)
  replace y00 := keep_cell hal13 (Nat.le_refl _) y00
  replace y01 := keep_cell hal13 (Nat.le_refl _) y01
  replace y10 := keep_cell hal13 (Nat.le_refl _) y10
  replace y11 := keep_cell hal13 (Nat.le_refl _) y11
  replace y20 := keep_cell hal13 (Nat.le_refl _) y20
  replace y21 := keep_cell hal13 (Nat.le_refl _) y21
  replace iW := fun x => (iW x).below hal13 (iW x).lt
  replace o0 := o0.below hal13 o0.lt
  replace z00 := keep_cell hal13 (Nat.le_refl _) z00
  replace z01 := keep_cell hal13 (Nat.le_refl _) z01
  replace o1 := o1.below hal13 o1.lt
  replace o1c := o1c.below hal13 o1c.lt
  replace z10 := keep_cell hal13 (Nat.le_refl _) z10
  replace z11 := keep_cell hal13 (Nat.le_refl _) z11
  replace o2 := o2.below hal13 o2.lt
  replace o2c := o2c.below hal13 o2c.lt
  replace hB := below_next hB (Nat.le_refl _) hal13
  have z20 : (w12.alloc (.cells #[.slice (some ⟨b2, 0, none⟩) u u, .slice (some ⟨c2, 0, none⟩) v v] 44)).cell? ⟨w12.heap.size, 0, none⟩ = some (.slice (some ⟨b2, 0, none⟩) u u) := by simp [go_sem]
  have z21 : (w12.alloc (.cells #[.slice (some ⟨b2, 0, none⟩) u u, .slice (some ⟨c2, 0, none⟩) v v] 44)).cell? ⟨w12.heap.size, 1, none⟩ = some (.slice (some ⟨c2, 0, none⟩) v v) := by simp [go_sem]
  have sz13 : (w12.alloc (.cells #[.slice (some ⟨b2, 0, none⟩) u u, .slice (some ⟨c2, 0, none⟩) v v] 44)).heap.size = w12.heap.size + 1 := by simp
  clear hal13
  go_wp2_with fail
  refine (HIM.out _ _ _ _ _ _ _ _ _ _ _ o0.row o1.row o1c.row o2.row o2c.row).mono ?_
  rintro e w14 ⟨aoX, capX, rfl, hWi, hbF⟩
  replace y00 := keep_cell hbF (Nat.le_refl _) y00
  replace y01 := keep_cell hbF (Nat.le_refl _) y01
  replace y10 := keep_cell hbF (Nat.le_refl _) y10
  replace y11 := keep_cell hbF (Nat.le_refl _) y11
  replace y20 := keep_cell hbF (Nat.le_refl _) y20
  replace y21 := keep_cell hbF (Nat.le_refl _) y21
  replace iW := fun x => (iW x).below hbF (iW x).lt
  replace o0 := o0.below hbF o0.lt
  replace z00 := keep_cell hbF (Nat.le_refl _) z00
  replace z01 := keep_cell hbF (Nat.le_refl _) z01
  replace o1 := o1.below hbF o1.lt
  replace o1c := o1c.below hbF o1c.lt
  replace z10 := keep_cell hbF (Nat.le_refl _) z10
  replace z11 := keep_cell hbF (Nat.le_refl _) z11
  replace o2 := o2.below hbF o2.lt
  replace o2c := o2c.below hbF o2c.lt
  replace z20 := keep_cell hbF (Nat.le_refl _) z20
  replace z21 := keep_cell hbF (Nat.le_refl _) z21
  replace hB := below_next hB (Nat.le_refl _) hbF
  have szw14 := hbF.size
  obtain ⟨bX, eX, iX, lX, uX⟩ := pick1 hWi (fun _ h => h.lt)
  clear hWi hbF
  go_wp2_with fail
  refine (eqInt64S_big _ _ N _ _ D hN9 _ (irow_at eX iX) (irow_at eW iW)).mono ?_
  rintro e w15 ⟨rfl, hbq⟩
  replace y00 := keep_cell hbq (Nat.le_refl _) y00
  replace y01 := keep_cell hbq (Nat.le_refl _) y01
  replace y10 := keep_cell hbq (Nat.le_refl _) y10
  replace y11 := keep_cell hbq (Nat.le_refl _) y11
  replace y20 := keep_cell hbq (Nat.le_refl _) y20
  replace y21 := keep_cell hbq (Nat.le_refl _) y21
  replace iW := fun x => (iW x).below hbq (iW x).lt
  replace o0 := o0.below hbq o0.lt
  replace z00 := keep_cell hbq (Nat.le_refl _) z00
  replace z01 := keep_cell hbq (Nat.le_refl _) z01
  replace o1 := o1.below hbq o1.lt
  replace o1c := o1c.below hbq o1c.lt
  replace z10 := keep_cell hbq (Nat.le_refl _) z10
  replace z11 := keep_cell hbq (Nat.le_refl _) z11
  replace o2 := o2.below hbq o2.lt
  replace o2c := o2c.below hbq o2c.lt
  replace z20 := keep_cell hbq (Nat.le_refl _) z20
  replace z21 := keep_cell hbq (Nat.le_refl _) z21
  replace iX := fun x => (iX x).below hbq (iX x).lt
  replace hB := below_next hB (Nat.le_refl _) hbq
  have szw15 := hbq.size
  clear hbq
  go_wp2_with fail
  have hbd := (Below.refl w15.heap.size w15).drew
  replace y00 := keep_cell hbd (Nat.le_refl _) y00
  replace y01 := keep_cell hbd (Nat.le_refl _) y01
  replace y10 := keep_cell hbd (Nat.le_refl _) y10
  replace y11 := keep_cell hbd (Nat.le_refl _) y11
  replace y20 := keep_cell hbd (Nat.le_refl _) y20
  replace y21 := keep_cell hbd (Nat.le_refl _) y21
  replace iW := fun x => (iW x).below hbd (iW x).lt
  replace o0 := o0.below hbd o0.lt
  replace z00 := keep_cell hbd (Nat.le_refl _) z00
  replace z01 := keep_cell hbd (Nat.le_refl _) z01
  replace o1 := o1.below hbd o1.lt
  replace o1c := o1c.below hbd o1c.lt
  replace z10 := keep_cell hbd (Nat.le_refl _) z10
  replace z11 := keep_cell hbd (Nat.le_refl _) z11
  replace o2 := o2.below hbd o2.lt
  replace o2c := o2c.below hbd o2c.lt
  replace z20 := keep_cell hbd (Nat.le_refl _) z20
  replace z21 := keep_cell hbd (Nat.le_refl _) z21
  replace iX := fun x => (iX x).below hbd (iX x).lt
  replace hB := below_next hB (Nat.le_refl _) hbd
  have sz15 := hbd.size
  clear hbd
  go_region_held3 (fun w' => w'.cell? ⟨w8.heap.size, 0, none⟩ = some (.int .i64 p) ∧ w'.cell? ⟨w8.heap.size, 1, none⟩ = some (.slice (some ⟨b0, 0, none⟩) n n) ∧ w'.cell? ⟨w.heap.size, 0, none⟩ = some (.int .i64 p) ∧ w'.cell? ⟨w.heap.size, 1, none⟩ = some (.slice ao n cap))
    (first | (go_split_ands; refine ⟨?_, ?_, ?_, ?_⟩ <;> exact keep_cell hbq (Nat.le_refl _) (by assumption)) | (go_split_ands; refine ⟨?_, ?_, ?_, ?_⟩ <;> exact keep_cell hby0 (Nat.le_refl _) (by assumption)) | go_keep)
    (first | (go_at_call 9; refine (toGraph_any p ao n cap F T G hn _ (hr.below hB (Nat.le_refl _))).mono ?_; rintro e w16 ⟨by0, rfl, hly0, oy0, hby0⟩) | (go_at_call 14; refine (eqGraph_same p _ _ n n n F T G hn _ (o0.below hby0 o0.lt).row oy0.row).mono ?_; rintro e w17 ⟨rfl, hbq⟩))
  replace y00 := keep_cell hby0 (Nat.le_refl _) y00
  replace y01 := keep_cell hby0 (Nat.le_refl _) y01
  replace y10 := keep_cell hby0 (Nat.le_refl _) y10
  replace y11 := keep_cell hby0 (Nat.le_refl _) y11
  replace y20 := keep_cell hby0 (Nat.le_refl _) y20
  replace y21 := keep_cell hby0 (Nat.le_refl _) y21
  replace iW := fun x => (iW x).below hby0 (iW x).lt
  replace o0 := o0.below hby0 o0.lt
  replace z00 := keep_cell hby0 (Nat.le_refl _) z00
  replace z01 := keep_cell hby0 (Nat.le_refl _) z01
  replace o1 := o1.below hby0 o1.lt
  replace o1c := o1c.below hby0 o1c.lt
  replace z10 := keep_cell hby0 (Nat.le_refl _) z10
  replace z11 := keep_cell hby0 (Nat.le_refl _) z11
  replace o2 := o2.below hby0 o2.lt
  replace o2c := o2c.below hby0 o2c.lt
  replace z20 := keep_cell hby0 (Nat.le_refl _) z20
  replace z21 := keep_cell hby0 (Nat.le_refl _) z21
  replace iX := fun x => (iX x).below hby0 (iX x).lt
  replace hB := below_next hB (Nat.le_refl _) hby0
  have szw16 := hby0.size
  replace y00 := keep_cell hbq (Nat.le_refl _) y00
  replace y01 := keep_cell hbq (Nat.le_refl _) y01
  replace y10 := keep_cell hbq (Nat.le_refl _) y10
  replace y11 := keep_cell hbq (Nat.le_refl _) y11
  replace y20 := keep_cell hbq (Nat.le_refl _) y20
  replace y21 := keep_cell hbq (Nat.le_refl _) y21
  replace iW := fun x => (iW x).below hbq (iW x).lt
  replace o0 := o0.below hbq o0.lt
  replace z00 := keep_cell hbq (Nat.le_refl _) z00
  replace z01 := keep_cell hbq (Nat.le_refl _) z01
  replace o1 := o1.below hbq o1.lt
  replace o1c := o1c.below hbq o1c.lt
  replace z10 := keep_cell hbq (Nat.le_refl _) z10
  replace z11 := keep_cell hbq (Nat.le_refl _) z11
  replace o2 := o2.below hbq o2.lt
  replace o2c := o2c.below hbq o2c.lt
  replace z20 := keep_cell hbq (Nat.le_refl _) z20
  replace z21 := keep_cell hbq (Nat.le_refl _) z21
  replace iX := fun x => (iX x).below hbq (iX x).lt
  replace hB := below_next hB (Nat.le_refl _) hbq
  have szw17 := hbq.size
  clear hbq hby0 hly0 oy0
  go_wp2_with fail
  have hbd := (Below.refl w17.heap.size w17).drew
  replace y00 := keep_cell hbd (Nat.le_refl _) y00
  replace y01 := keep_cell hbd (Nat.le_refl _) y01
  replace y10 := keep_cell hbd (Nat.le_refl _) y10
  replace y11 := keep_cell hbd (Nat.le_refl _) y11
  replace y20 := keep_cell hbd (Nat.le_refl _) y20
  replace y21 := keep_cell hbd (Nat.le_refl _) y21
  replace iW := fun x => (iW x).below hbd (iW x).lt
  replace o0 := o0.below hbd o0.lt
  replace z00 := keep_cell hbd (Nat.le_refl _) z00
  replace z01 := keep_cell hbd (Nat.le_refl _) z01
  replace o1 := o1.below hbd o1.lt
  replace o1c := o1c.below hbd o1c.lt
  replace z10 := keep_cell hbd (Nat.le_refl _) z10
  replace z11 := keep_cell hbd (Nat.le_refl _) z11
  replace o2 := o2.below hbd o2.lt
  replace o2c := o2c.below hbd o2c.lt
  replace z20 := keep_cell hbd (Nat.le_refl _) z20
  replace z21 := keep_cell hbd (Nat.le_refl _) z21
  replace iX := fun x => (iX x).below hbd (iX x).lt
  replace hB := below_next hB (Nat.le_refl _) hbd
  have sz17 := hbd.size
  clear hbd
  go_region_held3 (fun w' => w'.cell? ⟨w10.heap.size, 0, none⟩ = some (.slice (some ⟨b1, 0, none⟩) k k) ∧ w'.cell? ⟨w10.heap.size, 1, none⟩ = some (.slice (some ⟨c1, 0, none⟩) m m) ∧ w'.cell? ⟨w.heap.size + 1, 0, none⟩ = some (.slice po k pcap) ∧ w'.cell? ⟨w.heap.size + 1, 1, none⟩ = some (.slice eo m ecap))
    (first | (go_split_ands; refine ⟨?_, ?_, ?_, ?_⟩ <;> exact keep_cell hbq (Nat.le_refl _) (by assumption)) | (go_split_ands; refine ⟨?_, ?_, ?_, ?_⟩ <;> exact keep_cell hby1 (Nat.le_refl _) (by assumption)) | go_keep)
    (first | (go_at_call 10; refine (toHier_any po k pcap P eo m ecap L H hk hm _ (hp.below hB (Nat.le_refl _)) (he.below hB (Nat.le_refl _))).mono ?_; rintro e w18 ⟨by1, cy1, rfl, hly1, hmy1, oy1, oy1c, hby1⟩) | (go_at_call 15; refine (eqHier_same _ _ k k k P _ _ m m m L H hk hm _ (o1.below hby1 o1.lt).row oy1.row (o1c.below hby1 o1c.lt).row oy1c.row).mono ?_; rintro e w19 ⟨rfl, hbq⟩))
  replace y00 := keep_cell hby1 (Nat.le_refl _) y00
  replace y01 := keep_cell hby1 (Nat.le_refl _) y01
  replace y10 := keep_cell hby1 (Nat.le_refl _) y10
  replace y11 := keep_cell hby1 (Nat.le_refl _) y11
  replace y20 := keep_cell hby1 (Nat.le_refl _) y20
  replace y21 := keep_cell hby1 (Nat.le_refl _) y21
  replace iW := fun x => (iW x).below hby1 (iW x).lt
  replace o0 := o0.below hby1 o0.lt
  replace z00 := keep_cell hby1 (Nat.le_refl _) z00
  replace z01 := keep_cell hby1 (Nat.le_refl _) z01
  replace o1 := o1.below hby1 o1.lt
  replace o1c := o1c.below hby1 o1c.lt
  replace z10 := keep_cell hby1 (Nat.le_refl _) z10
  replace z11 := keep_cell hby1 (Nat.le_refl _) z11
  replace o2 := o2.below hby1 o2.lt
  replace o2c := o2c.below hby1 o2c.lt
  replace z20 := keep_cell hby1 (Nat.le_refl _) z20
  replace z21 := keep_cell hby1 (Nat.le_refl _) z21
  replace iX := fun x => (iX x).below hby1 (iX x).lt
  replace hB := below_next hB (Nat.le_refl _) hby1
  have szw18 := hby1.size
  replace y00 := keep_cell hbq (Nat.le_refl _) y00
  replace y01 := keep_cell hbq (Nat.le_refl _) y01
  replace y10 := keep_cell hbq (Nat.le_refl _) y10
  replace y11 := keep_cell hbq (Nat.le_refl _) y11
  replace y20 := keep_cell hbq (Nat.le_refl _) y20
  replace y21 := keep_cell hbq (Nat.le_refl _) y21
  replace iW := fun x => (iW x).below hbq (iW x).lt
  replace o0 := o0.below hbq o0.lt
  replace z00 := keep_cell hbq (Nat.le_refl _) z00
  replace z01 := keep_cell hbq (Nat.le_refl _) z01
  replace o1 := o1.below hbq o1.lt
  replace o1c := o1c.below hbq o1c.lt
  replace z10 := keep_cell hbq (Nat.le_refl _) z10
  replace z11 := keep_cell hbq (Nat.le_refl _) z11
  replace o2 := o2.below hbq o2.lt
  replace o2c := o2c.below hbq o2c.lt
  replace z20 := keep_cell hbq (Nat.le_refl _) z20
  replace z21 := keep_cell hbq (Nat.le_refl _) z21
  replace iX := fun x => (iX x).below hbq (iX x).lt
  replace hB := below_next hB (Nat.le_refl _) hbq
  have szw19 := hbq.size
  clear hbq hby1 hly1 hmy1 oy1 oy1c
  go_wp2_with fail
  have hbd := (Below.refl w19.heap.size w19).drew
  replace y00 := keep_cell hbd (Nat.le_refl _) y00
  replace y01 := keep_cell hbd (Nat.le_refl _) y01
  replace y10 := keep_cell hbd (Nat.le_refl _) y10
  replace y11 := keep_cell hbd (Nat.le_refl _) y11
  replace y20 := keep_cell hbd (Nat.le_refl _) y20
  replace y21 := keep_cell hbd (Nat.le_refl _) y21
  replace iW := fun x => (iW x).below hbd (iW x).lt
  replace o0 := o0.below hbd o0.lt
  replace z00 := keep_cell hbd (Nat.le_refl _) z00
  replace z01 := keep_cell hbd (Nat.le_refl _) z01
  replace o1 := o1.below hbd o1.lt
  replace o1c := o1c.below hbd o1c.lt
  replace z10 := keep_cell hbd (Nat.le_refl _) z10
  replace z11 := keep_cell hbd (Nat.le_refl _) z11
  replace o2 := o2.below hbd o2.lt
  replace o2c := o2c.below hbd o2c.lt
  replace z20 := keep_cell hbd (Nat.le_refl _) z20
  replace z21 := keep_cell hbd (Nat.le_refl _) z21
  replace iX := fun x => (iX x).below hbd (iX x).lt
  replace hB := below_next hB (Nat.le_refl _) hbd
  have sz19 := hbd.size
  clear hbd
  go_region_held3 (fun w' => w'.cell? ⟨w12.heap.size, 0, none⟩ = some (.slice (some ⟨b2, 0, none⟩) u u) ∧ w'.cell? ⟨w12.heap.size, 1, none⟩ = some (.slice (some ⟨c2, 0, none⟩) v v) ∧ w'.cell? ⟨w.heap.size + 1 + 1, 0, none⟩ = some (.slice uo u ucap) ∧ w'.cell? ⟨w.heap.size + 1 + 1, 1, none⟩ = some (.slice vo v vcap))
    (first | (go_split_ands; refine ⟨?_, ?_, ?_, ?_⟩ <;> exact keep_cell hbq (Nat.le_refl _) (by assumption)) | (go_split_ands; refine ⟨?_, ?_, ?_, ?_⟩ <;> exact keep_cell hby2 (Nat.le_refl _) (by assumption)) | go_keep)
    (first | (go_at_call 11; refine (toMetric_any uo u ucap U vo v vcap V hu9 hv9 _ (hu.below hB (Nat.le_refl _)) (hv.below hB (Nat.le_refl _))).mono ?_; rintro e w20 ⟨by2, cy2, rfl, hly2, hmy2, oy2, oy2c, hby2⟩) | (go_at_call 16; refine (eqMetric_same _ _ u u u U _ _ v v v V hu9 hv9 _ (o2.below hby2 o2.lt).row oy2.row (o2c.below hby2 o2c.lt).row oy2c.row).mono ?_; rintro e w21 ⟨rfl, hbq⟩))
  replace y00 := keep_cell hby2 (Nat.le_refl _) y00
  replace y01 := keep_cell hby2 (Nat.le_refl _) y01
  replace y10 := keep_cell hby2 (Nat.le_refl _) y10
  replace y11 := keep_cell hby2 (Nat.le_refl _) y11
  replace y20 := keep_cell hby2 (Nat.le_refl _) y20
  replace y21 := keep_cell hby2 (Nat.le_refl _) y21
  replace iW := fun x => (iW x).below hby2 (iW x).lt
  replace o0 := o0.below hby2 o0.lt
  replace z00 := keep_cell hby2 (Nat.le_refl _) z00
  replace z01 := keep_cell hby2 (Nat.le_refl _) z01
  replace o1 := o1.below hby2 o1.lt
  replace o1c := o1c.below hby2 o1c.lt
  replace z10 := keep_cell hby2 (Nat.le_refl _) z10
  replace z11 := keep_cell hby2 (Nat.le_refl _) z11
  replace o2 := o2.below hby2 o2.lt
  replace o2c := o2c.below hby2 o2c.lt
  replace z20 := keep_cell hby2 (Nat.le_refl _) z20
  replace z21 := keep_cell hby2 (Nat.le_refl _) z21
  replace iX := fun x => (iX x).below hby2 (iX x).lt
  replace hB := below_next hB (Nat.le_refl _) hby2
  have szw20 := hby2.size
  replace y00 := keep_cell hbq (Nat.le_refl _) y00
  replace y01 := keep_cell hbq (Nat.le_refl _) y01
  replace y10 := keep_cell hbq (Nat.le_refl _) y10
  replace y11 := keep_cell hbq (Nat.le_refl _) y11
  replace y20 := keep_cell hbq (Nat.le_refl _) y20
  replace y21 := keep_cell hbq (Nat.le_refl _) y21
  replace iW := fun x => (iW x).below hbq (iW x).lt
  replace o0 := o0.below hbq o0.lt
  replace z00 := keep_cell hbq (Nat.le_refl _) z00
  replace z01 := keep_cell hbq (Nat.le_refl _) z01
  replace o1 := o1.below hbq o1.lt
  replace o1c := o1c.below hbq o1c.lt
  replace z10 := keep_cell hbq (Nat.le_refl _) z10
  replace z11 := keep_cell hbq (Nat.le_refl _) z11
  replace o2 := o2.below hbq o2.lt
  replace o2c := o2c.below hbq o2c.lt
  replace z20 := keep_cell hbq (Nat.le_refl _) z20
  replace z21 := keep_cell hbq (Nat.le_refl _) z21
  replace iX := fun x => (iX x).below hbq (iX x).lt
  replace hB := below_next hB (Nat.le_refl _) hbq
  have szw21 := hbq.size
  clear hbq hby2 hly2 hmy2 oy2 oy2c
  go_wp2_with fail
  refine (markGraph_any p b0 n n (ar F T G) 1 (by omega) (by omega) hn _ (fun _ => o0) _ (fun _ => rfl)).mono ?_
  rintro e w22 ⟨rfl, _, hg⟩
  have hT := Turns.of_grown hg
  clear hg
  clear o0 z00 z01
  replace y00 := hT.cell (by simp; omega) y00
  replace y01 := hT.cell (by simp; omega) y01
  replace y10 := hT.cell (by simp; omega) y10
  replace y11 := hT.cell (by simp; omega) y11
  replace y20 := hT.cell (by simp; omega) y20
  replace y21 := hT.cell (by simp; omega) y21
  replace iW := fun x => (iW x).of_block (hT.block _ (iW x).lt (by simp; omega))
  replace o1 := o1.of_block (hT.block _ o1.lt (by simp; omega))
  replace o1c := o1c.of_block (hT.block _ o1c.lt (by simp; omega))
  replace z10 := hT.cell (by simp; omega) z10
  replace z11 := hT.cell (by simp; omega) z11
  replace o2 := o2.of_block (hT.block _ o2.lt (by simp; omega))
  replace o2c := o2c.of_block (hT.block _ o2c.lt (by simp; omega))
  replace z20 := hT.cell (by simp; omega) z20
  replace z21 := hT.cell (by simp; omega) z21
  replace iX := fun x => (iX x).of_block (hT.block _ (iX x).lt (by simp; omega))
  replace hB := hB.trans (hT.below (by omega) (by simp; omega))
  have sz22 := hT.size
  clear hT
  go_wp2_with fail
  refine (markHier_any b1 c1 k m k m P (er L H) (1 + 3 * (n : Int)) (by omega) (by omega) hk hm _ (fun _ => o1) (fun _ => o1c) (by omega) _ (fun _ => rfl) _ (fun _ => rfl) o1.lt o1c.lt).mono ?_
  rintro e w23 ⟨rfl, _, _, hg⟩
  have hT := hg
  clear o1 o1c z10 z11
  replace y00 := hT.cell (by simp; omega) y00
  replace y01 := hT.cell (by simp; omega) y01
  replace y10 := hT.cell (by simp; omega) y10
  replace y11 := hT.cell (by simp; omega) y11
  replace y20 := hT.cell (by simp; omega) y20
  replace y21 := hT.cell (by simp; omega) y21
  replace iW := fun x => (iW x).of_block (hT.block _ (iW x).lt (by simp; omega))
  replace o2 := o2.of_block (hT.block _ o2.lt (by simp; omega))
  replace o2c := o2c.of_block (hT.block _ o2c.lt (by simp; omega))
  replace z20 := hT.cell (by simp; omega) z20
  replace z21 := hT.cell (by simp; omega) z21
  replace iX := fun x => (iX x).of_block (hT.block _ (iX x).lt (by simp; omega))
  replace hB := hB.trans (hT.below (by omega) (by simp; omega))
  have sz23 := hT.size
  clear hT
  go_wp2_with fail
  refine (markMetric_any b2 c2 u v u v U V (1 + 3 * (n : Int) + (k : Int) + 2 * (m : Int)) (by omega) (by omega) hu9 hv9 _ (fun _ => o2) (fun _ => o2c) (by omega) _ (fun _ => rfl) _ (fun _ => rfl) o2.lt o2c.lt).mono ?_
  rintro e w24 ⟨rfl, _, _, hg⟩
  have hT := hg
  clear o2 o2c z20 z21
  replace y00 := hT.cell (by simp; omega) y00
  replace y01 := hT.cell (by simp; omega) y01
  replace y10 := hT.cell (by simp; omega) y10
  replace y11 := hT.cell (by simp; omega) y11
  replace y20 := hT.cell (by simp; omega) y20
  replace y21 := hT.cell (by simp; omega) y21
  replace iW := fun x => (iW x).of_block (hT.block _ (iW x).lt (by simp; omega))
  replace iX := fun x => (iX x).of_block (hT.block _ (iX x).lt (by simp; omega))
  replace hB := hB.trans (hT.below (by omega) (by simp; omega))
  have sz24 := hT.size
  clear hT
  have hkk : ¬ 1 + 3 * (n : Int) + (k : Int) + 2 * (m : Int) + (u : Int) + (v : Int) < 0 := by omega
  go_wp2_with fail
  refine (eqInt64S_big _ _ N _ _ D hN9 _ (irow_at eX iX) (irow_at eW iW)).mono ?_
  rintro e w25 ⟨rfl, hbq⟩
  replace y00 := keep_cell hbq (Nat.le_refl _) y00
  replace y01 := keep_cell hbq (Nat.le_refl _) y01
  replace y10 := keep_cell hbq (Nat.le_refl _) y10
  replace y11 := keep_cell hbq (Nat.le_refl _) y11
  replace y20 := keep_cell hbq (Nat.le_refl _) y20
  replace y21 := keep_cell hbq (Nat.le_refl _) y21
  replace iW := fun x => (iW x).below hbq (iW x).lt
  replace iX := fun x => (iX x).below hbq (iX x).lt
  replace hB := below_next hB (Nat.le_refl _) hbq
  have szw25 := hbq.size
  clear hbq
  go_wp2_with fail
  refine (markInt64S_big bX N _ D 1 (by omega) (by omega) hN9 _ iX _ eX).mono ?_
  rintro e w26 ⟨rfl, iY, hg⟩
  have hT := Turns.of_grown hg
  clear hg
  clear iX
  replace y00 := hT.cell (by simp; omega) y00
  replace y01 := hT.cell (by simp; omega) y01
  replace y10 := hT.cell (by simp; omega) y10
  replace y11 := hT.cell (by simp; omega) y11
  replace y20 := hT.cell (by simp; omega) y20
  replace y21 := hT.cell (by simp; omega) y21
  replace iW := fun x => (iW x).of_block (hT.block _ (iW x).lt (by simp; omega))
  replace hB := hB.trans (hT.below (by omega) (by simp; omega))
  have sz26 := hT.size
  clear hT
  go_wp2_with fail
  refine (heldInt64S_big bX N _ 1 (by omega) (by omega) hN9 _ iY _ eX).mono ?_
  rintro e wq ⟨rfl, hq⟩
  have hq' := hq.symm; subst hq'; clear hq
  go_wp2_with fail
  have hbd := (Below.refl w26.heap.size w26).drew
  replace y00 := keep_cell hbd (Nat.le_refl _) y00
  replace y01 := keep_cell hbd (Nat.le_refl _) y01
  replace y10 := keep_cell hbd (Nat.le_refl _) y10
  replace y11 := keep_cell hbd (Nat.le_refl _) y11
  replace y20 := keep_cell hbd (Nat.le_refl _) y20
  replace y21 := keep_cell hbd (Nat.le_refl _) y21
  replace iW := fun x => (iW x).below hbd (iW x).lt
  replace iY := fun x => (iY x).below hbd (iY x).lt
  replace hB := below_next hB (Nat.le_refl _) hbd
  have sz26 := hbd.size
  clear hbd
  go_region_held3 (fun w' => w'.cell? ⟨w.heap.size, 0, none⟩ = some (.int .i64 p) ∧ w'.cell? ⟨w.heap.size, 1, none⟩ = some (.slice ao n cap) ∧ w'.cell? ⟨w.heap.size + 1, 0, none⟩ = some (.slice po k pcap) ∧ w'.cell? ⟨w.heap.size + 1, 1, none⟩ = some (.slice eo m ecap) ∧ w'.cell? ⟨w.heap.size + 1 + 1, 0, none⟩ = some (.slice uo u ucap) ∧ w'.cell? ⟨w.heap.size + 1 + 1, 1, none⟩ = some (.slice vo v vcap))
    (first | (go_split_ands; refine ⟨?_, ?_, ?_, ?_, ?_, ?_⟩ <;> exact keep_cell hbF (Nat.le_refl _) (by assumption)) | (go_split_ands; refine ⟨?_, ?_, ?_, ?_, ?_, ?_⟩ <;> exact keep_cell hbt2 (Nat.le_refl _) (by assumption)) | (go_split_ands; refine ⟨?_, ?_, ?_, ?_, ?_, ?_⟩ <;> exact keep_cell hbt1 (Nat.le_refl _) (by assumption)) | (go_split_ands; refine ⟨?_, ?_, ?_, ?_, ?_, ?_⟩ <;> exact keep_cell hbt0 (Nat.le_refl _) (by assumption)) | go_keep)
    (first | (go_at_call 9; refine (toGraph_any p ao n cap F T G hn _ (hr.below hB (Nat.le_refl _))).mono ?_; rintro e w27 ⟨bt0, rfl, hlt0, ot0, hbt0⟩; have hBt0 := below_next hB (Nat.le_refl _) hbt0) | (go_at_call 10; refine (toHier_any po k pcap P eo m ecap L H hk hm _ (hp.below hBt0 (Nat.le_refl _)) (he.below hBt0 (Nat.le_refl _))).mono ?_; rintro e w28 ⟨bt1, ct1, rfl, hlt1, hmt1, ot1, ot1c, hbt1⟩; have hBt1 := below_next hBt0 (Nat.le_refl _) hbt1) | (go_at_call 11; refine (toMetric_any uo u ucap U vo v vcap V hu9 hv9 _ (hu.below hBt1 (Nat.le_refl _)) (hv.below hBt1 (Nat.le_refl _))).mono ?_; rintro e w29 ⟨bt2, ct2, rfl, hlt2, hmt2, ot2, ot2c, hbt2⟩; have hBt2 := below_next hBt1 (Nat.le_refl _) hbt2) | (go_at_call 12; refine (HIM.out _ _ _ _ _ _ _ _ _ _ _ ((ot0.row.below hbt1 (Nat.le_refl _)).below hbt2 (Nat.le_refl _)) (ot1.row.below hbt2 (Nat.le_refl _)) (ot1c.row.below hbt2 (Nat.le_refl _)) ot2.row ot2c.row).mono ?_; rintro e w30 ⟨aoZ, capZ, rfl, hW, hbF⟩))
  replace y00 := keep_cell hbt0 (Nat.le_refl _) y00
  replace y01 := keep_cell hbt0 (Nat.le_refl _) y01
  replace y10 := keep_cell hbt0 (Nat.le_refl _) y10
  replace y11 := keep_cell hbt0 (Nat.le_refl _) y11
  replace y20 := keep_cell hbt0 (Nat.le_refl _) y20
  replace y21 := keep_cell hbt0 (Nat.le_refl _) y21
  replace iW := fun x => (iW x).below hbt0 (iW x).lt
  replace iY := fun x => (iY x).below hbt0 (iY x).lt
  replace hB := below_next hB (Nat.le_refl _) hbt0
  have szw27 := hbt0.size
  replace y00 := keep_cell hbt1 (Nat.le_refl _) y00
  replace y01 := keep_cell hbt1 (Nat.le_refl _) y01
  replace y10 := keep_cell hbt1 (Nat.le_refl _) y10
  replace y11 := keep_cell hbt1 (Nat.le_refl _) y11
  replace y20 := keep_cell hbt1 (Nat.le_refl _) y20
  replace y21 := keep_cell hbt1 (Nat.le_refl _) y21
  replace iW := fun x => (iW x).below hbt1 (iW x).lt
  replace iY := fun x => (iY x).below hbt1 (iY x).lt
  replace hB := below_next hB (Nat.le_refl _) hbt1
  have szw28 := hbt1.size
  replace y00 := keep_cell hbt2 (Nat.le_refl _) y00
  replace y01 := keep_cell hbt2 (Nat.le_refl _) y01
  replace y10 := keep_cell hbt2 (Nat.le_refl _) y10
  replace y11 := keep_cell hbt2 (Nat.le_refl _) y11
  replace y20 := keep_cell hbt2 (Nat.le_refl _) y20
  replace y21 := keep_cell hbt2 (Nat.le_refl _) y21
  replace iW := fun x => (iW x).below hbt2 (iW x).lt
  replace iY := fun x => (iY x).below hbt2 (iY x).lt
  replace hB := below_next hB (Nat.le_refl _) hbt2
  have szw29 := hbt2.size
  replace y00 := keep_cell hbF (Nat.le_refl _) y00
  replace y01 := keep_cell hbF (Nat.le_refl _) y01
  replace y10 := keep_cell hbF (Nat.le_refl _) y10
  replace y11 := keep_cell hbF (Nat.le_refl _) y11
  replace y20 := keep_cell hbF (Nat.le_refl _) y20
  replace y21 := keep_cell hbF (Nat.le_refl _) y21
  replace iW := fun x => (iW x).below hbF (iW x).lt
  replace iY := fun x => (iY x).below hbF (iY x).lt
  replace hB := below_next hB (Nat.le_refl _) hbF
  have szw30 := hbF.size
  clear hBt0 hBt1 hBt2
  obtain ⟨bZ, eZ, iZ, lZ, uZ⟩ := pick1 hW (fun _ h => h.lt)
  clear hW hbF hlt0 hlt1 hmt1 hlt2 hmt2 ot0 ot1 ot1c ot2 ot2c hbt0 hbt1 hbt2
  go_wp2_with fail
  refine (eqInt64S_big _ _ N _ _ D hN9 _ (irow_at eZ iZ) (irow_at eW iW)).mono ?_
  rintro e w31 ⟨rfl, hbq⟩
  replace y00 := keep_cell hbq (Nat.le_refl _) y00
  replace y01 := keep_cell hbq (Nat.le_refl _) y01
  replace y10 := keep_cell hbq (Nat.le_refl _) y10
  replace y11 := keep_cell hbq (Nat.le_refl _) y11
  replace y20 := keep_cell hbq (Nat.le_refl _) y20
  replace y21 := keep_cell hbq (Nat.le_refl _) y21
  replace iW := fun x => (iW x).below hbq (iW x).lt
  replace iY := fun x => (iY x).below hbq (iY x).lt
  replace iZ := fun x => (iZ x).below hbq (iZ x).lt
  replace hB := below_next hB (Nat.le_refl _) hbq
  have szw31 := hbq.size
  clear hbq
  go_wp2_with fail
  refine (heldInt64S_big bX N _ 1 (by omega) (by omega) hN9 _ iY _ eX).mono ?_
  rintro e wq ⟨rfl, hq⟩
  have hq' := hq.symm; subst hq'; clear hq
  go_wp2
  go_ret
  exact ⟨rfl, hB⟩

set_option maxRecDepth 100000 in
theorem lawRoute_lifted (os : Os) (started : os.Started) (H : Type) (enc : TypeId × Value → H) :
    ReturnsInHanded {} Tryz.checked os 3 .any (Rows.fnExactRouteSpec.pre6 enc Tryz.prog Tryz.f3 Rows.fnExactRouteRow.domain false) (Rows.fnExactRouteSpec.post enc Tryz.prog Tryz.f3 false true false false) := by
  refine returnsInHanded_of_change (C := Tryz.checked) Tryz.own started (by kernel_rfl) Tryz.func3
    (ChangeSpec.witness6 (enc := enc) (C := Tryz.checked) false ⟨#[], #[.agg #[.int .i64 0, .slice none 0 0], .agg #[.slice none 0 0, .slice none 0 0], .agg #[.slice none 0 0, .slice none 0 0], .int .i64 0, .int .i64 0], []⟩ 8 (by kernel_rfl) (by kernel_rfl) (by kernel_rfl) (by kernel_rfl)) ?_
  intro W base args ds gs before hval0 hW hcnd _
  have hval : ∀ (j : Nat) t v, Tryz.f3.params[j]? = some t → args[j]? = some v → Value.okWide Tryz.prog W .any base t v := hval0
  have hW' := hW
  obtain ⟨p, q, hA0, hV, rfl, hfz, hnd⟩ := hW
  have hA : DataW.TrodAll enc Tryz.prog W 0 (fun _ => true) true Tryz.f3.params.toList args.toList ds p := hA0
  rw [Tryz.params3] at hA hval
  obtain ⟨v0, vs0, d0, ds0, p0, q0, hargs, rfl, rfl, h0, r0⟩ := trodAll_cons hA
  obtain ⟨v1, vs1, d1, ds1, p1, q1, rfl, rfl, rfl, h1, r1⟩ := trodAll_cons r0
  obtain ⟨v2, vs2, d2, ds2, p2, q2, rfl, rfl, rfl, h2, r2⟩ := trodAll_cons r1
  obtain ⟨v3, vs3, d3, ds3, p3, q3, rfl, rfl, rfl, h3, r3⟩ := trodAll_cons r2
  obtain ⟨v4, vs4, d4, ds4, p4, q4, rfl, rfl, rfl, h4, r4⟩ := trodAll_cons r3
  obtain ⟨rfl, rfl, rfl⟩ := trodAll_nil r4
  obtain rfl : args = #[v0, v1, v2, v3, v4] := by cases args; simp_all
  obtain ⟨rfl, rfl⟩ := trodVars_none hV
  have k0 := h0
  have lt0 : ∀ x ∈ p0, x.block < W.heap.size := by obtain ⟨m, hm⟩ := k0; exact DataW.trod_lt m _ _ _ hm
  have k1 := h1
  have lt1 : ∀ x ∈ p1, x.block < W.heap.size := by obtain ⟨m, hm⟩ := k1; exact DataW.trod_lt m _ _ _ hm
  have k2 := h2
  have lt2 : ∀ x ∈ p2, x.block < W.heap.size := by obtain ⟨m, hm⟩ := k2; exact DataW.trod_lt m _ _ _ hm
  obtain ⟨c00, c01, y00, y01, f0, rfl, _, _, hy00, hy01⟩ := open_agg2 Tryz.underlying24 (by kernel_rfl) Tryz.cellsLGraph (hval 0 24 v0 rfl rfl) h0
  obtain ⟨pl0, e00, _, _⟩ := DataW.trod_int Tryz.underlying2 hy00
  obtain ⟨ao0, n0, cap0, F0, T0, G0, e01, hn0, hr0⟩ := open_arcs hy01
  simp at e00 e01
  subst e00 e01
  obtain ⟨c10, c11, y10, y11, f1, rfl, _, _, hy10, hy11⟩ := open_agg2 Tryz.underlying28 (by kernel_rfl) Tryz.cellsLHier (hval 1 28 v1 rfl rfl) h1
  obtain ⟨ao1, n1, cap1, P1, e10, hn1, hr1, wf1⟩ := open_nums hy10
  obtain ⟨eo1, m1, ecap1, L1, H1, e11, hm1, he1, wl1, wh1⟩ := open_edges hy11
  simp at e10 e11
  subst e10 e11
  obtain ⟨c20, c21, y20, y21, f2, rfl, _, _, hy20, hy21⟩ := open_agg2 Tryz.underlying30 (by kernel_rfl) Tryz.cellsLMetric (hval 2 30 v2 rfl rfl) h2
  obtain ⟨ao2, n2, cap2, P2, e20, hn2, hr2, wf2⟩ := open_nums hy20
  obtain ⟨eo2, m2, ecap2, L2, e21, hm2, he2, wl2⟩ := open_nums hy21
  simp at e20 e21
  subst e20 e21
  obtain ⟨sc3, rfl, rfl, rfl, wsc3⟩ := open_int Tryz.underlying2 (hval 3 2 v3 rfl rfl) h3
  obtain ⟨sc4, rfl, rfl, rfl, wsc4⟩ := open_int Tryz.underlying2 (hval 4 2 v4 rfl rfl) h4
  clear hA0 hval0
  refine (lawRoute_walk pl0 ao0 n0 cap0 F0 T0 G0 ao1 n1 cap1 P1 eo1 m1 ecap1 L1 H1 ao2 n2 cap2 P2 eo2 m2 ecap2 L2 sc3 sc4 hn0 hn1 hm1 hn2 hm2  W hr0 hr1 he1 hr2 he2 ).mono fun e W' ⟨he, bel⟩ => ?_
  subst he
  exact ⟨_, rfl, _, _, _, [], _, [], hW', trodAll_mk1 (shut_bool Tryz.underlying4 _), (trodAll_cons_mk (Below.trod Tryz.laidOut (by kernel_rfl) (of_decide_eq_true (by kernel_rfl)) k0 bel lt0) (trodAll_cons_mk (Below.trod Tryz.laidOut (by kernel_rfl) (of_decide_eq_true (by kernel_rfl)) k1 bel lt1) (trodAll_cons_mk (Below.trod Tryz.laidOut (by kernel_rfl) (of_decide_eq_true (by kernel_rfl)) k2 bel lt2) (trodAll_cons_mk (shut_int Tryz.underlying2 wsc3) (trodAll_cons_mk (shut_int Tryz.underlying2 wsc4) trodAll_mk0))))), rfl, bel.frame _, fun h => by cases h⟩

theorem fnExactRoute_holds : Rows.FnExactRouteSaid :=
  OpenClaim.holds_of_wide 3 Tryz.f3 rfl rfl rfl rfl rfl rfl rfl ⟨rfl, rfl, rfl, rfl, rfl⟩ rfl rfl rfl rfl rfl (by kernel_rfl) Tryz.func3 (by kernel_rfl)
    (of_decide_eq_true (by kernel_rfl)) (by unfold Func.isWrapper; first | (rw [if_pos (by decide +kernel)]; kernel_rfl) | (rw [if_neg (by decide +kernel)]; exact ⟨rfl, rfl⟩))
    (fun os started H enc _ => lawRoute_lifted os started H enc)
#print axioms fnExactRoute_holds

end Go.Proofs.YteibbknpcgcjjaiGreat
