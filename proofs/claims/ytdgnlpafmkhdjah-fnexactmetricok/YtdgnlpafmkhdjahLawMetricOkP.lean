/-
  Proved: at every hierarchy and every metric the law FnExactMetricOk answers true, and its arguments read behind the call as they read before. No condition.
-/
import Derived.Test.YtdgnlpafmkhdjahPack5
import Derived.Test.YtdgnlpafmkhdjahPack6
set_option linter.unusedVariables false
set_option linter.unusedSimpArgs false
namespace Go.Proofs.Ytdgnlpafmkhdjah
open Go.ChangeShapes Go.WideShapes Go.ChangeAt Go.RowKit Go.Deep Go.Joins
attribute [local go_sem ↓] Go.wp_at_zero Go.wp_at_succ

set_option maxHeartbeats 8000000 in
theorem lawMetricOk_walk (po : Option Addr) (k pcap : Nat) (P : Nat → Int) (eo : Option Addr) (m ecap : Nat) (L H : Nat → Int) (uo : Option Addr) (u ucap : Nat) (U : Nat → Int) (vo : Option Addr) (v vcap : Nat) (V : Nat → Int) (hkM : k ≤ maxLen) (hmM : m ≤ maxLen) (huM : u ≤ maxLen) (hvM : v ≤ maxLen) (w : World) (hp : IRow w po k P) (he : ERow w eo m L H) (hu : IRow w uo u U) (hv : IRow w vo v V) :
    Calls Try.prog 3 #[.agg #[.slice po k pcap, .slice eo m ecap], .agg #[.slice uo u ucap, .slice vo v vcap]] w fun e w' => e = .returned (.bool true) ∧ Below w.heap.size w w' := by
  unfold maxLen at hkM hmM huM hvM
  by_cases hbig0 : 1048576 < 0 + (k : Int) + (m : Int)
  · go_enter Try.func3, Try.ntmps3
    have hB0 : Below w.heap.size w ((w.alloc (.cells #[.slice po k pcap, .slice eo m ecap] 25)).alloc (.cells #[.slice uo u ucap, .slice vo v vcap] 27)) := (((Below.refl _ w).alloc (Nat.le_refl _) _).alloc (by simp) _)
    go_wp2_with fail
    refine (szHier_out po k pcap eo m ecap (1048576) (by omega) (by omega) (by omega) (by omega) (by omega) _).mono ?_
    rintro e z0 ⟨rfl, hz0⟩
    replace hB0 := below_next hB0 (Nat.le_refl _) hz0
    go_wp2
    go_ret
    exact ⟨rfl, hB0⟩
  by_cases hbig1 : 1048576 < (k : Int) + (m : Int) + (u : Int) + (v : Int)
  · go_enter Try.func3, Try.ntmps3
    have hB0 : Below w.heap.size w ((w.alloc (.cells #[.slice po k pcap, .slice eo m ecap] 25)).alloc (.cells #[.slice uo u ucap, .slice vo v vcap] 27)) := (((Below.refl _ w).alloc (Nat.le_refl _) _).alloc (by simp) _)
    go_wp2_with fail
    refine (szHier_in po k pcap eo m ecap (1048576) (by omega) (by omega) _).mono ?_
    rintro e z0 ⟨rfl, hz0⟩
    replace hB0 := below_next hB0 (Nat.le_refl _) hz0
    have y000 := keep_cell hz0 (Nat.le_refl _) (b := w.heap.size) (o := 0) (by simp [go_sem]; rfl)
    have y001 := keep_cell hz0 (Nat.le_refl _) (b := w.heap.size) (o := 1) (by simp [go_sem]; rfl)
    have y010 := keep_cell hz0 (Nat.le_refl _) (b := w.heap.size + 1) (o := 0) (by simp [go_sem]; rfl)
    have y011 := keep_cell hz0 (Nat.le_refl _) (b := w.heap.size + 1) (o := 1) (by simp [go_sem]; rfl)
    go_wp2_with fail
    refine (szMetric_out uo u ucap vo v vcap (1048576 - k - m) (by omega) (by omega) (by omega) (by omega) (by omega) _).mono ?_
    rintro e z1 ⟨rfl, hz1⟩
    replace hB0 := below_next hB0 (Nat.le_refl _) hz1
    go_wp2
    go_ret
    exact ⟨rfl, hB0⟩
  have hk : k ≤ 1048576 := by omega
  have hm : m ≤ 1048576 := by omega
  have hu9 : u ≤ 1048576 := by omega
  have hv9 : v ≤ 1048576 := by omega
  go_enter Try.func3, Try.ntmps3
  have hB : Below w.heap.size w ((w.alloc (.cells #[.slice po k pcap, .slice eo m ecap] 25)).alloc (.cells #[.slice uo u ucap, .slice vo v vcap] 27)) := (((Below.refl _ w).alloc (Nat.le_refl _) _).alloc (by simp) _)
  have y00 : ((w.alloc (.cells #[.slice po k pcap, .slice eo m ecap] 25)).alloc (.cells #[.slice uo u ucap, .slice vo v vcap] 27)).cell? ⟨w.heap.size, 0, none⟩ = some (.slice po k pcap) := by simp [go_sem]
  have y01 : ((w.alloc (.cells #[.slice po k pcap, .slice eo m ecap] 25)).alloc (.cells #[.slice uo u ucap, .slice vo v vcap] 27)).cell? ⟨w.heap.size, 1, none⟩ = some (.slice eo m ecap) := by simp [go_sem]
  have y10 : ((w.alloc (.cells #[.slice po k pcap, .slice eo m ecap] 25)).alloc (.cells #[.slice uo u ucap, .slice vo v vcap] 27)).cell? ⟨w.heap.size + 1, 0, none⟩ = some (.slice uo u ucap) := by simp [go_sem]
  have y11 : ((w.alloc (.cells #[.slice po k pcap, .slice eo m ecap] 25)).alloc (.cells #[.slice uo u ucap, .slice vo v vcap] 27)).cell? ⟨w.heap.size + 1, 1, none⟩ = some (.slice vo v vcap) := by simp [go_sem]
  have sz0 : ((w.alloc (.cells #[.slice po k pcap, .slice eo m ecap] 25)).alloc (.cells #[.slice uo u ucap, .slice vo v vcap] 27)).heap.size = w.heap.size + 2 := by simp
  go_wp2_with fail
  refine (szHier_in po k pcap eo m ecap (1048576) (by omega) (by omega) _).mono ?_
  rintro e w1 ⟨rfl, hbz⟩
  replace y00 := keep_cell hbz (Nat.le_refl _) y00
  replace y01 := keep_cell hbz (Nat.le_refl _) y01
  replace y10 := keep_cell hbz (Nat.le_refl _) y10
  replace y11 := keep_cell hbz (Nat.le_refl _) y11
  replace hB := below_next hB (Nat.le_refl _) hbz
  have sz1 := hbz.size
  clear hbz
  go_wp2_with fail
  refine (szMetric_in uo u ucap vo v vcap (1048576 - k - m) (by omega) (by omega) _).mono ?_
  rintro e w2 ⟨rfl, hbz⟩
  replace y00 := keep_cell hbz (Nat.le_refl _) y00
  replace y01 := keep_cell hbz (Nat.le_refl _) y01
  replace y10 := keep_cell hbz (Nat.le_refl _) y10
  replace y11 := keep_cell hbz (Nat.le_refl _) y11
  replace hB := below_next hB (Nat.le_refl _) hbz
  have sz2 := hbz.size
  clear hbz
  go_wp2_with fail
  have hbd := (Below.refl w2.heap.size w2).drew
  replace y00 := keep_cell hbd (Nat.le_refl _) y00
  replace y01 := keep_cell hbd (Nat.le_refl _) y01
  replace y10 := keep_cell hbd (Nat.le_refl _) y10
  replace y11 := keep_cell hbd (Nat.le_refl _) y11
  replace hB := below_next hB (Nat.le_refl _) hbd
  have sz2 := hbd.size
  clear hbd
  go_region_held3 (fun w' => w'.cell? ⟨w.heap.size, 0, none⟩ = some (.slice po k pcap) ∧ w'.cell? ⟨w.heap.size, 1, none⟩ = some (.slice eo m ecap) ∧ w'.cell? ⟨w.heap.size + 1, 0, none⟩ = some (.slice uo u ucap) ∧ w'.cell? ⟨w.heap.size + 1, 1, none⟩ = some (.slice vo v vcap))
    (first | (go_split_ands; refine ⟨?_, ?_, ?_, ?_⟩ <;> exact keep_cell hbF (Nat.le_refl _) (by assumption)) | (go_split_ands; refine ⟨?_, ?_, ?_, ?_⟩ <;> exact keep_cell hbs1 (Nat.le_refl _) (by assumption)) | (go_split_ands; refine ⟨?_, ?_, ?_, ?_⟩ <;> exact keep_cell hbs0 (Nat.le_refl _) (by assumption)) | go_keep)
    (first | (go_at_call 12; refine (toHier_any po k pcap P eo m ecap L H hk hm _ (hp.below hB (Nat.le_refl _)) (he.below hB (Nat.le_refl _))).mono ?_; rintro e w3 ⟨bs0, cs0, rfl, hls0, hms0, os0, os0c, hbs0⟩; have hBs0 := below_next hB (Nat.le_refl _) hbs0) | (go_at_call 13; refine (toMetric_any uo u ucap U vo v vcap V hu9 hv9 _ (hu.below hBs0 (Nat.le_refl _)) (hv.below hBs0 (Nat.le_refl _))).mono ?_; rintro e w4 ⟨bs1, cs1, rfl, hls1, hms1, os1, os1c, hbs1⟩; have hBs1 := below_next hBs0 (Nat.le_refl _) hbs1) | (go_at_call 11; refine (specMetricOk_any _ k _ P _ m _ L H _ u _ U _ v _ V hk hm hu9 hv9 _ (os0c.row.below hbs1 (Nat.le_refl _)) os1.row os1c.row).mono ?_; rintro e w5 ⟨⟨bb, rfl, hbb⟩, hbF⟩))
  replace y00 := keep_cell hbs0 (Nat.le_refl _) y00
  replace y01 := keep_cell hbs0 (Nat.le_refl _) y01
  replace y10 := keep_cell hbs0 (Nat.le_refl _) y10
  replace y11 := keep_cell hbs0 (Nat.le_refl _) y11
  replace hB := below_next hB (Nat.le_refl _) hbs0
  have szw3 := hbs0.size
  replace y00 := keep_cell hbs1 (Nat.le_refl _) y00
  replace y01 := keep_cell hbs1 (Nat.le_refl _) y01
  replace y10 := keep_cell hbs1 (Nat.le_refl _) y10
  replace y11 := keep_cell hbs1 (Nat.le_refl _) y11
  replace hB := below_next hB (Nat.le_refl _) hbs1
  have szw4 := hbs1.size
  replace y00 := keep_cell hbF (Nat.le_refl _) y00
  replace y01 := keep_cell hbF (Nat.le_refl _) y01
  replace y10 := keep_cell hbF (Nat.le_refl _) y10
  replace y11 := keep_cell hbF (Nat.le_refl _) y11
  replace hB := below_next hB (Nat.le_refl _) hbF
  have szw5 := hbF.size
  clear hBs0 hBs1
  clear hbF hls0 hms0 hls1 hms1 os0 os0c os1 os1c hbs0 hbs1
  go_wp2_with fail
  refine (toHier_any po k pcap P eo m ecap L H hk hm _ (hp.below hB (Nat.le_refl _)) (he.below hB (Nat.le_refl _))).mono ?_
  rintro e w6 ⟨b0, c0, rfl, hl0, hm0, o0, o0c, hb0⟩
  replace y00 := keep_cell hb0 (Nat.le_refl _) y00
  replace y01 := keep_cell hb0 (Nat.le_refl _) y01
  replace y10 := keep_cell hb0 (Nat.le_refl _) y10
  replace y11 := keep_cell hb0 (Nat.le_refl _) y11
  replace hB := below_next hB (Nat.le_refl _) hb0
  have szw6 := hb0.size
  clear hb0
  have o0l := o0.lt
  have o0cl := o0c.lt
  have hal7 := (Below.refl w6.heap.size w6).alloc (Nat.le_refl _) (.cells #[.slice (some ⟨b0, 0, none⟩) k k, .slice (some ⟨c0, 0, none⟩) m m] 33)
  replace y00 := keep_cell hal7 (Nat.le_refl _) y00
  replace y01 := keep_cell hal7 (Nat.le_refl _) y01
  replace y10 := keep_cell hal7 (Nat.le_refl _) y10
  replace y11 := keep_cell hal7 (Nat.le_refl _) y11
  replace o0 := o0.below hal7 o0.lt
  replace o0c := o0c.below hal7 o0c.lt
  replace hB := below_next hB (Nat.le_refl _) hal7
  have z00 : (w6.alloc (.cells #[.slice (some ⟨b0, 0, none⟩) k k, .slice (some ⟨c0, 0, none⟩) m m] 33)).cell? ⟨w6.heap.size, 0, none⟩ = some (.slice (some ⟨b0, 0, none⟩) k k) := by simp [go_sem]
  have z01 : (w6.alloc (.cells #[.slice (some ⟨b0, 0, none⟩) k k, .slice (some ⟨c0, 0, none⟩) m m] 33)).cell? ⟨w6.heap.size, 1, none⟩ = some (.slice (some ⟨c0, 0, none⟩) m m) := by simp [go_sem]
  have sz7 : (w6.alloc (.cells #[.slice (some ⟨b0, 0, none⟩) k k, .slice (some ⟨c0, 0, none⟩) m m] 33)).heap.size = w6.heap.size + 1 := by simp
  clear hal7
  go_wp2_with fail
  refine (toMetric_any uo u ucap U vo v vcap V hu9 hv9 _ (hu.below hB (Nat.le_refl _)) (hv.below hB (Nat.le_refl _))).mono ?_
  rintro e w8 ⟨b1, c1, rfl, hl1, hm1, o1, o1c, hb1⟩
  replace y00 := keep_cell hb1 (Nat.le_refl _) y00
  replace y01 := keep_cell hb1 (Nat.le_refl _) y01
  replace y10 := keep_cell hb1 (Nat.le_refl _) y10
  replace y11 := keep_cell hb1 (Nat.le_refl _) y11
  replace o0 := o0.below hb1 o0.lt
  replace o0c := o0c.below hb1 o0c.lt
  replace z00 := keep_cell hb1 (Nat.le_refl _) z00
  replace z01 := keep_cell hb1 (Nat.le_refl _) z01
  replace hB := below_next hB (Nat.le_refl _) hb1
  have szw8 := hb1.size
  clear hb1
  have o1l := o1.lt
  have o1cl := o1c.lt
  have hal9 := (Below.refl w8.heap.size w8).alloc (Nat.le_refl _) (.cells #[.slice (some ⟨b1, 0, none⟩) u u, .slice (some ⟨c1, 0, none⟩) v v] 35)
  replace y00 := keep_cell hal9 (Nat.le_refl _) y00
  replace y01 := keep_cell hal9 (Nat.le_refl _) y01
  replace y10 := keep_cell hal9 (Nat.le_refl _) y10
  replace y11 := keep_cell hal9 (Nat.le_refl _) y11
  replace o0 := o0.below hal9 o0.lt
  replace o0c := o0c.below hal9 o0c.lt
  replace z00 := keep_cell hal9 (Nat.le_refl _) z00
  replace z01 := keep_cell hal9 (Nat.le_refl _) z01
  replace o1 := o1.below hal9 o1.lt
  replace o1c := o1c.below hal9 o1c.lt
  replace hB := below_next hB (Nat.le_refl _) hal9
  have z10 : (w8.alloc (.cells #[.slice (some ⟨b1, 0, none⟩) u u, .slice (some ⟨c1, 0, none⟩) v v] 35)).cell? ⟨w8.heap.size, 0, none⟩ = some (.slice (some ⟨b1, 0, none⟩) u u) := by simp [go_sem]
  have z11 : (w8.alloc (.cells #[.slice (some ⟨b1, 0, none⟩) u u, .slice (some ⟨c1, 0, none⟩) v v] 35)).cell? ⟨w8.heap.size, 1, none⟩ = some (.slice (some ⟨c1, 0, none⟩) v v) := by simp [go_sem]
  have sz9 : (w8.alloc (.cells #[.slice (some ⟨b1, 0, none⟩) u u, .slice (some ⟨c1, 0, none⟩) v v] 35)).heap.size = w8.heap.size + 1 := by simp
  clear hal9
  go_wp2_with fail
  refine (implMetricOk_any _ k _ P _ m _ L H _ u _ U _ v _ V hk hm (Nat.le_refl _) hu9 hv9 _ o0c.row o1.row o1c.row).mono ?_
  rintro e w10 ⟨⟨bb', rfl, hbb'⟩, hbF⟩
  replace y00 := keep_cell hbF (Nat.le_refl _) y00
  replace y01 := keep_cell hbF (Nat.le_refl _) y01
  replace y10 := keep_cell hbF (Nat.le_refl _) y10
  replace y11 := keep_cell hbF (Nat.le_refl _) y11
  replace o0 := o0.below hbF o0.lt
  replace o0c := o0c.below hbF o0c.lt
  replace z00 := keep_cell hbF (Nat.le_refl _) z00
  replace z01 := keep_cell hbF (Nat.le_refl _) z01
  replace o1 := o1.below hbF o1.lt
  replace o1c := o1c.below hbF o1c.lt
  replace z10 := keep_cell hbF (Nat.le_refl _) z10
  replace z11 := keep_cell hbF (Nat.le_refl _) z11
  replace hB := below_next hB (Nat.le_refl _) hbF
  have szw10 := hbF.size
  obtain rfl : bb' = bb := by
    cases bb <;> cases bb' <;> simp_all
  clear hbF hbb hbb'
  cases bb' <;>
  · go_wp2_with fail
    have hbd := (Below.refl w10.heap.size w10).drew
    replace y00 := keep_cell hbd (Nat.le_refl _) y00
    replace y01 := keep_cell hbd (Nat.le_refl _) y01
    replace y10 := keep_cell hbd (Nat.le_refl _) y10
    replace y11 := keep_cell hbd (Nat.le_refl _) y11
    replace o0 := o0.below hbd o0.lt
    replace o0c := o0c.below hbd o0c.lt
    replace z00 := keep_cell hbd (Nat.le_refl _) z00
    replace z01 := keep_cell hbd (Nat.le_refl _) z01
    replace o1 := o1.below hbd o1.lt
    replace o1c := o1c.below hbd o1c.lt
    replace z10 := keep_cell hbd (Nat.le_refl _) z10
    replace z11 := keep_cell hbd (Nat.le_refl _) z11
    replace hB := below_next hB (Nat.le_refl _) hbd
    have sz10 := hbd.size
    clear hbd
    go_region_held3 (fun w' => w'.cell? ⟨w6.heap.size, 0, none⟩ = some (.slice (some ⟨b0, 0, none⟩) k k) ∧ w'.cell? ⟨w6.heap.size, 1, none⟩ = some (.slice (some ⟨c0, 0, none⟩) m m) ∧ w'.cell? ⟨w.heap.size, 0, none⟩ = some (.slice po k pcap) ∧ w'.cell? ⟨w.heap.size, 1, none⟩ = some (.slice eo m ecap))
      (first | (go_split_ands; refine ⟨?_, ?_, ?_, ?_⟩ <;> exact keep_cell hbq (Nat.le_refl _) (by assumption)) | (go_split_ands; refine ⟨?_, ?_, ?_, ?_⟩ <;> exact keep_cell hby0 (Nat.le_refl _) (by assumption)) | go_keep)
      (first | (go_at_call 12; refine (toHier_any po k pcap P eo m ecap L H hk hm _ (hp.below hB (Nat.le_refl _)) (he.below hB (Nat.le_refl _))).mono ?_; rintro e w11 ⟨by0, cy0, rfl, hly0, hmy0, oy0, oy0c, hby0⟩) | (go_at_call 15; refine (eqHier_same _ _ k k k P _ _ m m m L H hk hm _ (o0.below hby0 o0.lt).row oy0.row (o0c.below hby0 o0c.lt).row oy0c.row).mono ?_; rintro e w12 ⟨rfl, hbq⟩))
    replace y00 := keep_cell hby0 (Nat.le_refl _) y00
    replace y01 := keep_cell hby0 (Nat.le_refl _) y01
    replace y10 := keep_cell hby0 (Nat.le_refl _) y10
    replace y11 := keep_cell hby0 (Nat.le_refl _) y11
    replace o0 := o0.below hby0 o0.lt
    replace o0c := o0c.below hby0 o0c.lt
    replace z00 := keep_cell hby0 (Nat.le_refl _) z00
    replace z01 := keep_cell hby0 (Nat.le_refl _) z01
    replace o1 := o1.below hby0 o1.lt
    replace o1c := o1c.below hby0 o1c.lt
    replace z10 := keep_cell hby0 (Nat.le_refl _) z10
    replace z11 := keep_cell hby0 (Nat.le_refl _) z11
    replace hB := below_next hB (Nat.le_refl _) hby0
    have szw11 := hby0.size
    replace y00 := keep_cell hbq (Nat.le_refl _) y00
    replace y01 := keep_cell hbq (Nat.le_refl _) y01
    replace y10 := keep_cell hbq (Nat.le_refl _) y10
    replace y11 := keep_cell hbq (Nat.le_refl _) y11
    replace o0 := o0.below hbq o0.lt
    replace o0c := o0c.below hbq o0c.lt
    replace z00 := keep_cell hbq (Nat.le_refl _) z00
    replace z01 := keep_cell hbq (Nat.le_refl _) z01
    replace o1 := o1.below hbq o1.lt
    replace o1c := o1c.below hbq o1c.lt
    replace z10 := keep_cell hbq (Nat.le_refl _) z10
    replace z11 := keep_cell hbq (Nat.le_refl _) z11
    replace hB := below_next hB (Nat.le_refl _) hbq
    have szw12 := hbq.size
    clear hbq hby0 hly0 hmy0 oy0 oy0c
    go_wp2_with fail
    have hbd := (Below.refl w12.heap.size w12).drew
    replace y00 := keep_cell hbd (Nat.le_refl _) y00
    replace y01 := keep_cell hbd (Nat.le_refl _) y01
    replace y10 := keep_cell hbd (Nat.le_refl _) y10
    replace y11 := keep_cell hbd (Nat.le_refl _) y11
    replace o0 := o0.below hbd o0.lt
    replace o0c := o0c.below hbd o0c.lt
    replace z00 := keep_cell hbd (Nat.le_refl _) z00
    replace z01 := keep_cell hbd (Nat.le_refl _) z01
    replace o1 := o1.below hbd o1.lt
    replace o1c := o1c.below hbd o1c.lt
    replace z10 := keep_cell hbd (Nat.le_refl _) z10
    replace z11 := keep_cell hbd (Nat.le_refl _) z11
    replace hB := below_next hB (Nat.le_refl _) hbd
    have sz12 := hbd.size
    clear hbd
    go_region_held3 (fun w' => w'.cell? ⟨w8.heap.size, 0, none⟩ = some (.slice (some ⟨b1, 0, none⟩) u u) ∧ w'.cell? ⟨w8.heap.size, 1, none⟩ = some (.slice (some ⟨c1, 0, none⟩) v v) ∧ w'.cell? ⟨w.heap.size + 1, 0, none⟩ = some (.slice uo u ucap) ∧ w'.cell? ⟨w.heap.size + 1, 1, none⟩ = some (.slice vo v vcap))
      (first | (go_split_ands; refine ⟨?_, ?_, ?_, ?_⟩ <;> exact keep_cell hbq (Nat.le_refl _) (by assumption)) | (go_split_ands; refine ⟨?_, ?_, ?_, ?_⟩ <;> exact keep_cell hby1 (Nat.le_refl _) (by assumption)) | go_keep)
      (first | (go_at_call 13; refine (toMetric_any uo u ucap U vo v vcap V hu9 hv9 _ (hu.below hB (Nat.le_refl _)) (hv.below hB (Nat.le_refl _))).mono ?_; rintro e w13 ⟨by1, cy1, rfl, hly1, hmy1, oy1, oy1c, hby1⟩) | (go_at_call 16; refine (eqMetric_same _ _ u u u U _ _ v v v V hu9 hv9 _ (o1.below hby1 o1.lt).row oy1.row (o1c.below hby1 o1c.lt).row oy1c.row).mono ?_; rintro e w14 ⟨rfl, hbq⟩))
    replace y00 := keep_cell hby1 (Nat.le_refl _) y00
    replace y01 := keep_cell hby1 (Nat.le_refl _) y01
    replace y10 := keep_cell hby1 (Nat.le_refl _) y10
    replace y11 := keep_cell hby1 (Nat.le_refl _) y11
    replace o0 := o0.below hby1 o0.lt
    replace o0c := o0c.below hby1 o0c.lt
    replace z00 := keep_cell hby1 (Nat.le_refl _) z00
    replace z01 := keep_cell hby1 (Nat.le_refl _) z01
    replace o1 := o1.below hby1 o1.lt
    replace o1c := o1c.below hby1 o1c.lt
    replace z10 := keep_cell hby1 (Nat.le_refl _) z10
    replace z11 := keep_cell hby1 (Nat.le_refl _) z11
    replace hB := below_next hB (Nat.le_refl _) hby1
    have szw13 := hby1.size
    replace y00 := keep_cell hbq (Nat.le_refl _) y00
    replace y01 := keep_cell hbq (Nat.le_refl _) y01
    replace y10 := keep_cell hbq (Nat.le_refl _) y10
    replace y11 := keep_cell hbq (Nat.le_refl _) y11
    replace o0 := o0.below hbq o0.lt
    replace o0c := o0c.below hbq o0c.lt
    replace z00 := keep_cell hbq (Nat.le_refl _) z00
    replace z01 := keep_cell hbq (Nat.le_refl _) z01
    replace o1 := o1.below hbq o1.lt
    replace o1c := o1c.below hbq o1c.lt
    replace z10 := keep_cell hbq (Nat.le_refl _) z10
    replace z11 := keep_cell hbq (Nat.le_refl _) z11
    replace hB := below_next hB (Nat.le_refl _) hbq
    have szw14 := hbq.size
    clear hbq hby1 hly1 hmy1 oy1 oy1c
    go_wp2
    go_ret
    exact ⟨rfl, hB⟩

set_option maxRecDepth 100000 in
theorem lawMetricOk_lifted (os : Os) (started : os.Started) (H : Type) (enc : TypeId × Value → H) :
    ReturnsInHanded {} Try.checked os 3 .any (Rows.fnExactMetricOkSpec.pre6 enc Try.prog Try.f3 Rows.fnExactMetricOkRow.domain false) (Rows.fnExactMetricOkSpec.post enc Try.prog Try.f3 false true false false) := by
  refine returnsInHanded_of_change (C := Try.checked) Try.own started (by kernel_rfl) Try.func3
    (ChangeSpec.witness6 (enc := enc) (C := Try.checked) false ⟨#[], #[.agg #[.slice none 0 0, .slice none 0 0], .agg #[.slice none 0 0, .slice none 0 0]], []⟩ 8 (by kernel_rfl) (by kernel_rfl) (by kernel_rfl) (by kernel_rfl)) ?_
  intro W base args ds gs before hval0 hW hcnd _
  have hval : ∀ (j : Nat) t v, Try.f3.params[j]? = some t → args[j]? = some v → Value.okWide Try.prog W .any base t v := hval0
  have hW' := hW
  obtain ⟨p, q, hA0, hV, rfl, hfz, hnd⟩ := hW
  have hA : DataW.TrodAll enc Try.prog W 0 (fun _ => true) true Try.f3.params.toList args.toList ds p := hA0
  rw [Try.params3] at hA hval
  obtain ⟨v0, vs0, d0, ds0, p0, q0, hargs, rfl, rfl, h0, r0⟩ := trodAll_cons hA
  obtain ⟨v1, vs1, d1, ds1, p1, q1, rfl, rfl, rfl, h1, r1⟩ := trodAll_cons r0
  obtain ⟨rfl, rfl, rfl⟩ := trodAll_nil r1
  obtain rfl : args = #[v0, v1] := by cases args; simp_all
  obtain ⟨rfl, rfl⟩ := trodVars_none hV
  have k0 := h0
  have lt0 : ∀ x ∈ p0, x.block < W.heap.size := by obtain ⟨m, hm⟩ := k0; exact DataW.trod_lt m _ _ _ hm
  have k1 := h1
  have lt1 : ∀ x ∈ p1, x.block < W.heap.size := by obtain ⟨m, hm⟩ := k1; exact DataW.trod_lt m _ _ _ hm
  obtain ⟨c00, c01, y00, y01, f0, rfl, _, _, hy00, hy01⟩ := open_agg2 Try.underlying25 (by kernel_rfl) Try.cellsLHier (hval 0 25 v0 rfl rfl) h0
  obtain ⟨ao0, n0, cap0, P0, e00, hn0, hr0, wf0⟩ := open_nums hy00
  obtain ⟨eo0, m0, ecap0, L0, H0, e01, hm0, he0, wl0, wh0⟩ := open_edges hy01
  simp at e00 e01
  subst e00 e01
  obtain ⟨c10, c11, y10, y11, f1, rfl, _, _, hy10, hy11⟩ := open_agg2 Try.underlying27 (by kernel_rfl) Try.cellsLMetric (hval 1 27 v1 rfl rfl) h1
  obtain ⟨ao1, n1, cap1, P1, e10, hn1, hr1, wf1⟩ := open_nums hy10
  obtain ⟨eo1, m1, ecap1, L1, e11, hm1, he1, wl1⟩ := open_nums hy11
  simp at e10 e11
  subst e10 e11
  clear hA0 hval0
  refine (lawMetricOk_walk ao0 n0 cap0 P0 eo0 m0 ecap0 L0 H0 ao1 n1 cap1 P1 eo1 m1 ecap1 L1 hn0 hm0 hn1 hm1 W hr0 he0 hr1 he1 ).mono fun e W' ⟨he, bel⟩ => ?_
  subst he
  exact ⟨_, rfl, _, _, _, [], _, [], hW', trodAll_mk1 (shut_bool Try.underlying4 _), (trodAll_cons_mk (Below.trod Try.laidOut (by kernel_rfl) (of_decide_eq_true (by kernel_rfl)) k0 bel lt0) (trodAll_cons_mk (Below.trod Try.laidOut (by kernel_rfl) (of_decide_eq_true (by kernel_rfl)) k1 bel lt1) trodAll_mk0)), rfl, bel.frame _, fun h => by cases h⟩

theorem fnExactMetricOk_holds : Rows.FnExactMetricOkSaid :=
  OpenClaim.holds_of_wide 3 Try.f3 rfl rfl rfl rfl rfl rfl rfl ⟨rfl, rfl, rfl, rfl, rfl⟩ rfl rfl rfl rfl rfl (by kernel_rfl) Try.func3 (by kernel_rfl)
    (of_decide_eq_true (by kernel_rfl)) (by unfold Func.isWrapper; first | (rw [if_pos (by decide +kernel)]; kernel_rfl) | (rw [if_neg (by decide +kernel)]; exact ⟨rfl, rfl⟩))
    (fun os started H enc _ => lawMetricOk_lifted os started H enc)
#print axioms fnExactMetricOk_holds

end Go.Proofs.Ytdgnlpafmkhdjah
