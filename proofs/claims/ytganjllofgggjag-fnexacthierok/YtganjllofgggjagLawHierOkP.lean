/-
  Proved: at every map and every hierarchy the law FnExactHierOk answers true, and its arguments read behind the call as they read before. No condition.
-/
import Derived.Test.YtganjllofgggjagPack5
set_option linter.unusedVariables false
set_option linter.unusedSimpArgs false
namespace Go.Proofs.Ytganjllofgggjag
open Go.ChangeShapes Go.WideShapes Go.ChangeAt Go.RowKit Go.Deep Go.Joins
attribute [local go_sem ↓] Go.wp_at_zero Go.wp_at_succ

set_option maxHeartbeats 8000000 in
theorem lawHierOk_walk (p : Int) (ao : Option Addr) (n cap : Nat) (F T G : Nat → Int) (po : Option Addr) (k pcap : Nat) (P : Nat → Int) (eo : Option Addr) (m ecap : Nat) (L H : Nat → Int) (hnM : n ≤ maxLen) (hkM : k ≤ maxLen) (hmM : m ≤ maxLen) (w : World) (hr : Row w ao n F T G) (hp : IRow w po k P) (he : ERow w eo m L H) :
    Calls Try.prog 7 #[.agg #[.int .i64 p, .slice ao n cap], .agg #[.slice po k pcap, .slice eo m ecap]] w fun e w' => e = .returned (.bool true) ∧ Below w.heap.size w w' := by
  unfold maxLen at hnM hkM hmM
  by_cases hbig0 : 1048576 < 0 + (n : Int)
  · go_enter Try.func7, Try.ntmps7
    have hB0 : Below w.heap.size w ((w.alloc (.cells #[.int .i64 p, .slice ao n cap] 38)).alloc (.cells #[.slice po k pcap, .slice eo m ecap] 53)) := (((Below.refl _ w).alloc (Nat.le_refl _) _).alloc (by simp) _)
    go_wp2_with fail
    refine (szGraph_out p ao n cap (1048576) (by omega) (by omega) (by omega) (by omega) _).mono ?_
    rintro e z0 ⟨rfl, hz0⟩
    replace hB0 := below_next hB0 (Nat.le_refl _) hz0
    go_wp2
    go_ret
    exact ⟨rfl, hB0⟩
  by_cases hbig1 : 1048576 < (n : Int) + (k : Int) + (m : Int)
  · go_enter Try.func7, Try.ntmps7
    have hB0 : Below w.heap.size w ((w.alloc (.cells #[.int .i64 p, .slice ao n cap] 38)).alloc (.cells #[.slice po k pcap, .slice eo m ecap] 53)) := (((Below.refl _ w).alloc (Nat.le_refl _) _).alloc (by simp) _)
    go_wp2_with fail
    refine (szGraph_in p ao n cap (1048576) (by omega) (by omega) _).mono ?_
    rintro e z0 ⟨rfl, hz0⟩
    replace hB0 := below_next hB0 (Nat.le_refl _) hz0
    have y000 := keep_cell hz0 (Nat.le_refl _) (b := w.heap.size) (o := 0) (by simp [go_sem]; rfl)
    have y001 := keep_cell hz0 (Nat.le_refl _) (b := w.heap.size) (o := 1) (by simp [go_sem]; rfl)
    have y010 := keep_cell hz0 (Nat.le_refl _) (b := w.heap.size + 1) (o := 0) (by simp [go_sem]; rfl)
    have y011 := keep_cell hz0 (Nat.le_refl _) (b := w.heap.size + 1) (o := 1) (by simp [go_sem]; rfl)
    go_wp2_with fail
    refine (szHier_out po k pcap eo m ecap (1048576 - n) (by omega) (by omega) (by omega) (by omega) (by omega) _).mono ?_
    rintro e z1 ⟨rfl, hz1⟩
    replace hB0 := below_next hB0 (Nat.le_refl _) hz1
    go_wp2
    go_ret
    exact ⟨rfl, hB0⟩
  have hn : n ≤ 1048576 := by omega
  have hk : k ≤ 1048576 := by omega
  have hm : m ≤ 1048576 := by omega
  go_enter Try.func7, Try.ntmps7
  have hB : Below w.heap.size w ((w.alloc (.cells #[.int .i64 p, .slice ao n cap] 38)).alloc (.cells #[.slice po k pcap, .slice eo m ecap] 53)) := (((Below.refl _ w).alloc (Nat.le_refl _) _).alloc (by simp) _)
  have y00 : ((w.alloc (.cells #[.int .i64 p, .slice ao n cap] 38)).alloc (.cells #[.slice po k pcap, .slice eo m ecap] 53)).cell? ⟨w.heap.size, 0, none⟩ = some (.int .i64 p) := by simp [go_sem]
  have y01 : ((w.alloc (.cells #[.int .i64 p, .slice ao n cap] 38)).alloc (.cells #[.slice po k pcap, .slice eo m ecap] 53)).cell? ⟨w.heap.size, 1, none⟩ = some (.slice ao n cap) := by simp [go_sem]
  have y10 : ((w.alloc (.cells #[.int .i64 p, .slice ao n cap] 38)).alloc (.cells #[.slice po k pcap, .slice eo m ecap] 53)).cell? ⟨w.heap.size + 1, 0, none⟩ = some (.slice po k pcap) := by simp [go_sem]
  have y11 : ((w.alloc (.cells #[.int .i64 p, .slice ao n cap] 38)).alloc (.cells #[.slice po k pcap, .slice eo m ecap] 53)).cell? ⟨w.heap.size + 1, 1, none⟩ = some (.slice eo m ecap) := by simp [go_sem]
  have sz0 : ((w.alloc (.cells #[.int .i64 p, .slice ao n cap] 38)).alloc (.cells #[.slice po k pcap, .slice eo m ecap] 53)).heap.size = w.heap.size + 2 := by simp
  go_wp2_with fail
  refine (szGraph_in p ao n cap (1048576) (by omega) (by omega) _).mono ?_
  rintro e w1 ⟨rfl, hbz⟩
  replace y00 := keep_cell hbz (Nat.le_refl _) y00
  replace y01 := keep_cell hbz (Nat.le_refl _) y01
  replace y10 := keep_cell hbz (Nat.le_refl _) y10
  replace y11 := keep_cell hbz (Nat.le_refl _) y11
  replace hB := below_next hB (Nat.le_refl _) hbz
  have sz1 := hbz.size
  clear hbz
  go_wp2_with fail
  refine (szHier_in po k pcap eo m ecap (1048576 - n) (by omega) (by omega) _).mono ?_
  rintro e w2 ⟨rfl, hbz⟩
  replace y00 := keep_cell hbz (Nat.le_refl _) y00
  replace y01 := keep_cell hbz (Nat.le_refl _) y01
  replace y10 := keep_cell hbz (Nat.le_refl _) y10
  replace y11 := keep_cell hbz (Nat.le_refl _) y11
  replace hB := below_next hB (Nat.le_refl _) hbz
  have sz2 := hbz.size
  clear hbz
  go_wp2_with fail
  have hbd := (Below.refl w2.heap.size w2).drew
  replace y00 := keep_cell hbd (Nat.le_refl _) y00
  replace y01 := keep_cell hbd (Nat.le_refl _) y01
  replace y10 := keep_cell hbd (Nat.le_refl _) y10
  replace y11 := keep_cell hbd (Nat.le_refl _) y11
  replace hB := below_next hB (Nat.le_refl _) hbd
  have sz2 := hbd.size
  clear hbd
  go_region_held3 (fun w' => w'.cell? ⟨w.heap.size, 0, none⟩ = some (.int .i64 p) ∧ w'.cell? ⟨w.heap.size, 1, none⟩ = some (.slice ao n cap) ∧ w'.cell? ⟨w.heap.size + 1, 0, none⟩ = some (.slice po k pcap) ∧ w'.cell? ⟨w.heap.size + 1, 1, none⟩ = some (.slice eo m ecap))
    (first | (go_split_ands; refine ⟨?_, ?_, ?_, ?_⟩ <;> exact keep_cell hbF (Nat.le_refl _) (by assumption)) | (go_split_ands; refine ⟨?_, ?_, ?_, ?_⟩ <;> exact keep_cell hbs1 (Nat.le_refl _) (by assumption)) | (go_split_ands; refine ⟨?_, ?_, ?_, ?_⟩ <;> exact keep_cell hbs0 (Nat.le_refl _) (by assumption)) | go_keep)
    (first | (go_at_call 24; refine (toGraph_any p ao n cap F T G hn _ (hr.below hB (Nat.le_refl _))).mono ?_; rintro e w3 ⟨bs0, rfl, hls0, os0, hbs0⟩; have hBs0 := below_next hB (Nat.le_refl _) hbs0) | (go_at_call 33; refine (toHier_any po k pcap P eo m ecap L H hk hm _ (hp.below hBs0 (Nat.le_refl _)) (he.below hBs0 (Nat.le_refl _))).mono ?_; rintro e w4 ⟨bs1, cs1, rfl, hls1, hms1, os1, os1c, hbs1⟩; have hBs1 := below_next hBs0 (Nat.le_refl _) hbs1) | (go_at_call 32; refine (specHierOk_any p _ n _ F T G _ k _ P _ m _ L H hn hk hm _ (os0.row.below hbs1 (Nat.le_refl _)) os1.row os1c.row).mono ?_; rintro e w5 ⟨⟨v, rfl, hv⟩, hbF⟩))
  replace y00 := keep_cell hbs0 (Nat.le_refl _) y00
  replace y01 := keep_cell hbs0 (Nat.le_refl _) y01
  replace y10 := keep_cell hbs0 (Nat.le_refl _) y10
  replace y11 := keep_cell hbs0 (Nat.le_refl _) y11
  replace hB := below_next hB (Nat.le_refl _) hbs0
  have szw3 := hbs0.size
  replace y00 := keep_cell hbs1 (Nat.le_refl _) y00
  replace y01 := keep_cell hbs1 (Nat.le_refl _) y01
  replace y10 := keep_cell hbs1 (Nat.le_refl _) y10
  replace y11 := keep_cell hbs1 (Nat.le_refl _) y11
  replace hB := below_next hB (Nat.le_refl _) hbs1
  have szw4 := hbs1.size
  replace y00 := keep_cell hbF (Nat.le_refl _) y00
  replace y01 := keep_cell hbF (Nat.le_refl _) y01
  replace y10 := keep_cell hbF (Nat.le_refl _) y10
  replace y11 := keep_cell hbF (Nat.le_refl _) y11
  replace hB := below_next hB (Nat.le_refl _) hbF
  have szw5 := hbF.size
  clear hBs0 hBs1
  clear hbF hls0 hls1 hms1 os0 os1 os1c hbs0 hbs1
  go_wp2_with fail
  refine (toGraph_any p ao n cap F T G hn _ (hr.below hB (Nat.le_refl _))).mono ?_
  rintro e w6 ⟨b0, rfl, hl0, o0, hb0⟩
  replace y00 := keep_cell hb0 (Nat.le_refl _) y00
  replace y01 := keep_cell hb0 (Nat.le_refl _) y01
  replace y10 := keep_cell hb0 (Nat.le_refl _) y10
  replace y11 := keep_cell hb0 (Nat.le_refl _) y11
  replace hB := below_next hB (Nat.le_refl _) hb0
  have szw6 := hb0.size
  clear hb0
  replace o0 := Has.of_own o0
  have o0l := o0.lt
  have hal7 := (Below.refl w6.heap.size w6).alloc (Nat.le_refl _) (.cells #[.int .i64 p, .slice (some ⟨b0, 0, none⟩) n n] 45)
  replace y00 := keep_cell hal7 (Nat.le_refl _) y00
  replace y01 := keep_cell hal7 (Nat.le_refl _) y01
  replace y10 := keep_cell hal7 (Nat.le_refl _) y10
  replace y11 := keep_cell hal7 (Nat.le_refl _) y11
  replace o0 := o0.below hal7 o0.lt
  replace hB := below_next hB (Nat.le_refl _) hal7
  have z00 : (w6.alloc (.cells #[.int .i64 p, .slice (some ⟨b0, 0, none⟩) n n] 45)).cell? ⟨w6.heap.size, 0, none⟩ = some (.int .i64 p) := by simp [go_sem]
  have z01 : (w6.alloc (.cells #[.int .i64 p, .slice (some ⟨b0, 0, none⟩) n n] 45)).cell? ⟨w6.heap.size, 1, none⟩ = some (.slice (some ⟨b0, 0, none⟩) n n) := by simp [go_sem]
  have sz7 : (w6.alloc (.cells #[.int .i64 p, .slice (some ⟨b0, 0, none⟩) n n] 45)).heap.size = w6.heap.size + 1 := by simp
  clear hal7
  go_wp2_with fail
  refine (toHier_any po k pcap P eo m ecap L H hk hm _ (hp.below hB (Nat.le_refl _)) (he.below hB (Nat.le_refl _))).mono ?_
  rintro e w8 ⟨b1, c1, rfl, hl1, hm1, o1, o1c, hb1⟩
  replace y00 := keep_cell hb1 (Nat.le_refl _) y00
  replace y01 := keep_cell hb1 (Nat.le_refl _) y01
  replace y10 := keep_cell hb1 (Nat.le_refl _) y10
  replace y11 := keep_cell hb1 (Nat.le_refl _) y11
  replace o0 := o0.below hb1 o0.lt
  replace z00 := keep_cell hb1 (Nat.le_refl _) z00
  replace z01 := keep_cell hb1 (Nat.le_refl _) z01
  replace hB := below_next hB (Nat.le_refl _) hb1
  have szw8 := hb1.size
  clear hb1
  have o1l := o1.lt
  have o1cl := o1c.lt
  have hal9 := (Below.refl w8.heap.size w8).alloc (Nat.le_refl _) (.cells #[.slice (some ⟨b1, 0, none⟩) k k, .slice (some ⟨c1, 0, none⟩) m m] 41)
  replace y00 := keep_cell hal9 (Nat.le_refl _) y00
  replace y01 := keep_cell hal9 (Nat.le_refl _) y01
  replace y10 := keep_cell hal9 (Nat.le_refl _) y10
  replace y11 := keep_cell hal9 (Nat.le_refl _) y11
  replace o0 := o0.below hal9 o0.lt
  replace z00 := keep_cell hal9 (Nat.le_refl _) z00
  replace z01 := keep_cell hal9 (Nat.le_refl _) z01
  replace o1 := o1.below hal9 o1.lt
  replace o1c := o1c.below hal9 o1c.lt
  replace hB := below_next hB (Nat.le_refl _) hal9
  have z10 : (w8.alloc (.cells #[.slice (some ⟨b1, 0, none⟩) k k, .slice (some ⟨c1, 0, none⟩) m m] 41)).cell? ⟨w8.heap.size, 0, none⟩ = some (.slice (some ⟨b1, 0, none⟩) k k) := by simp [go_sem]
  have z11 : (w8.alloc (.cells #[.slice (some ⟨b1, 0, none⟩) k k, .slice (some ⟨c1, 0, none⟩) m m] 41)).cell? ⟨w8.heap.size, 1, none⟩ = some (.slice (some ⟨c1, 0, none⟩) m m) := by simp [go_sem]
  have sz9 : (w8.alloc (.cells #[.slice (some ⟨b1, 0, none⟩) k k, .slice (some ⟨c1, 0, none⟩) m m] 41)).heap.size = w8.heap.size + 1 := by simp
  clear hal9
  go_wp2_with fail
  refine (implHierOk_any p _ n _ F T G _ k _ P _ m _ L H hn hk hm _ o0.row o1.row o1c.row).mono ?_
  rintro e w10 ⟨⟨v', rfl, hv'⟩, hbF⟩
  replace y00 := keep_cell hbF (Nat.le_refl _) y00
  replace y01 := keep_cell hbF (Nat.le_refl _) y01
  replace y10 := keep_cell hbF (Nat.le_refl _) y10
  replace y11 := keep_cell hbF (Nat.le_refl _) y11
  replace o0 := o0.below hbF o0.lt
  replace z00 := keep_cell hbF (Nat.le_refl _) z00
  replace z01 := keep_cell hbF (Nat.le_refl _) z01
  replace o1 := o1.below hbF o1.lt
  replace o1c := o1c.below hbF o1c.lt
  replace z10 := keep_cell hbF (Nat.le_refl _) z10
  replace z11 := keep_cell hbF (Nat.le_refl _) z11
  replace hB := below_next hB (Nat.le_refl _) hbF
  have szw10 := hbF.size
  obtain rfl : v' = v := by
    cases v <;> cases v' <;> simp_all
  clear hbF hv hv'
  cases v' <;>
  · go_wp2_with fail
    have hbd := (Below.refl w10.heap.size w10).drew
    replace y00 := keep_cell hbd (Nat.le_refl _) y00
    replace y01 := keep_cell hbd (Nat.le_refl _) y01
    replace y10 := keep_cell hbd (Nat.le_refl _) y10
    replace y11 := keep_cell hbd (Nat.le_refl _) y11
    replace o0 := o0.below hbd o0.lt
    replace z00 := keep_cell hbd (Nat.le_refl _) z00
    replace z01 := keep_cell hbd (Nat.le_refl _) z01
    replace o1 := o1.below hbd o1.lt
    replace o1c := o1c.below hbd o1c.lt
    replace z10 := keep_cell hbd (Nat.le_refl _) z10
    replace z11 := keep_cell hbd (Nat.le_refl _) z11
    replace hB := below_next hB (Nat.le_refl _) hbd
    have sz10 := hbd.size
    clear hbd
    go_region_held3 (fun w' => w'.cell? ⟨w6.heap.size, 0, none⟩ = some (.int .i64 p) ∧ w'.cell? ⟨w6.heap.size, 1, none⟩ = some (.slice (some ⟨b0, 0, none⟩) n n) ∧ w'.cell? ⟨w.heap.size, 0, none⟩ = some (.int .i64 p) ∧ w'.cell? ⟨w.heap.size, 1, none⟩ = some (.slice ao n cap))
      (first | (go_split_ands; refine ⟨?_, ?_, ?_, ?_⟩ <;> exact keep_cell hbq (Nat.le_refl _) (by assumption)) | (go_split_ands; refine ⟨?_, ?_, ?_, ?_⟩ <;> exact keep_cell hby0 (Nat.le_refl _) (by assumption)) | go_keep)
      (first | (go_at_call 24; refine (toGraph_any p ao n cap F T G hn _ (hr.below hB (Nat.le_refl _))).mono ?_; rintro e w11 ⟨by0, rfl, hly0, oy0, hby0⟩) | (go_at_call 27; refine (eqGraph_same p _ _ n n n F T G hn _ (o0.below hby0 o0.lt).row oy0.row).mono ?_; rintro e w12 ⟨rfl, hbq⟩))
    replace y00 := keep_cell hby0 (Nat.le_refl _) y00
    replace y01 := keep_cell hby0 (Nat.le_refl _) y01
    replace y10 := keep_cell hby0 (Nat.le_refl _) y10
    replace y11 := keep_cell hby0 (Nat.le_refl _) y11
    replace o0 := o0.below hby0 o0.lt
    replace z00 := keep_cell hby0 (Nat.le_refl _) z00
    replace z01 := keep_cell hby0 (Nat.le_refl _) z01
    replace o1 := o1.below hby0 o1.lt
    replace o1c := o1c.below hby0 o1c.lt
    replace z10 := keep_cell hby0 (Nat.le_refl _) z10
    replace z11 := keep_cell hby0 (Nat.le_refl _) z11
    replace hB := below_next hB (Nat.le_refl _) hby0
    have szw11 := hby0.size
    replace y00 := keep_cell hbq (Nat.le_refl _) y00
    replace y01 := keep_cell hbq (Nat.le_refl _) y01
    replace y10 := keep_cell hbq (Nat.le_refl _) y10
    replace y11 := keep_cell hbq (Nat.le_refl _) y11
    replace o0 := o0.below hbq o0.lt
    replace z00 := keep_cell hbq (Nat.le_refl _) z00
    replace z01 := keep_cell hbq (Nat.le_refl _) z01
    replace o1 := o1.below hbq o1.lt
    replace o1c := o1c.below hbq o1c.lt
    replace z10 := keep_cell hbq (Nat.le_refl _) z10
    replace z11 := keep_cell hbq (Nat.le_refl _) z11
    replace hB := below_next hB (Nat.le_refl _) hbq
    have szw12 := hbq.size
    clear hbq hby0 hly0 oy0
    go_wp2_with fail
    have hbd := (Below.refl w12.heap.size w12).drew
    replace y00 := keep_cell hbd (Nat.le_refl _) y00
    replace y01 := keep_cell hbd (Nat.le_refl _) y01
    replace y10 := keep_cell hbd (Nat.le_refl _) y10
    replace y11 := keep_cell hbd (Nat.le_refl _) y11
    replace o0 := o0.below hbd o0.lt
    replace z00 := keep_cell hbd (Nat.le_refl _) z00
    replace z01 := keep_cell hbd (Nat.le_refl _) z01
    replace o1 := o1.below hbd o1.lt
    replace o1c := o1c.below hbd o1c.lt
    replace z10 := keep_cell hbd (Nat.le_refl _) z10
    replace z11 := keep_cell hbd (Nat.le_refl _) z11
    replace hB := below_next hB (Nat.le_refl _) hbd
    have sz12 := hbd.size
    clear hbd
    go_region_held3 (fun w' => w'.cell? ⟨w8.heap.size, 0, none⟩ = some (.slice (some ⟨b1, 0, none⟩) k k) ∧ w'.cell? ⟨w8.heap.size, 1, none⟩ = some (.slice (some ⟨c1, 0, none⟩) m m) ∧ w'.cell? ⟨w.heap.size + 1, 0, none⟩ = some (.slice po k pcap) ∧ w'.cell? ⟨w.heap.size + 1, 1, none⟩ = some (.slice eo m ecap))
      (first | (go_split_ands; refine ⟨?_, ?_, ?_, ?_⟩ <;> exact keep_cell hbq (Nat.le_refl _) (by assumption)) | (go_split_ands; refine ⟨?_, ?_, ?_, ?_⟩ <;> exact keep_cell hby1 (Nat.le_refl _) (by assumption)) | go_keep)
      (first | (go_at_call 33; refine (toHier_any po k pcap P eo m ecap L H hk hm _ (hp.below hB (Nat.le_refl _)) (he.below hB (Nat.le_refl _))).mono ?_; rintro e w13 ⟨by1, cy1, rfl, hly1, hmy1, oy1, oy1c, hby1⟩) | (go_at_call 26; refine (eqHier_same _ _ k k k P _ _ m m m L H hk hm _ (o1.below hby1 o1.lt).row oy1.row (o1c.below hby1 o1c.lt).row oy1c.row).mono ?_; rintro e w14 ⟨rfl, hbq⟩))
    replace y00 := keep_cell hby1 (Nat.le_refl _) y00
    replace y01 := keep_cell hby1 (Nat.le_refl _) y01
    replace y10 := keep_cell hby1 (Nat.le_refl _) y10
    replace y11 := keep_cell hby1 (Nat.le_refl _) y11
    replace o0 := o0.below hby1 o0.lt
    replace z00 := keep_cell hby1 (Nat.le_refl _) z00
    replace z01 := keep_cell hby1 (Nat.le_refl _) z01
    replace o1 := o1.below hby1 o1.lt
    replace o1c := o1c.below hby1 o1c.lt
    replace z10 := keep_cell hby1 (Nat.le_refl _) z10
    replace z11 := keep_cell hby1 (Nat.le_refl _) z11
    replace hB := below_next hB (Nat.le_refl _) hby1
    have szw13 := hby1.size
    replace y00 := keep_cell hbq (Nat.le_refl _) y00
    replace y01 := keep_cell hbq (Nat.le_refl _) y01
    replace y10 := keep_cell hbq (Nat.le_refl _) y10
    replace y11 := keep_cell hbq (Nat.le_refl _) y11
    replace o0 := o0.below hbq o0.lt
    replace z00 := keep_cell hbq (Nat.le_refl _) z00
    replace z01 := keep_cell hbq (Nat.le_refl _) z01
    replace o1 := o1.below hbq o1.lt
    replace o1c := o1c.below hbq o1c.lt
    replace z10 := keep_cell hbq (Nat.le_refl _) z10
    replace z11 := keep_cell hbq (Nat.le_refl _) z11
    replace hB := below_next hB (Nat.le_refl _) hbq
    have szw14 := hbq.size
    clear hbq hby1 hly1 hmy1 oy1 oy1c
    go_wp2
    go_ret
    exact ⟨rfl, hB⟩

set_option maxRecDepth 100000 in
theorem lawHierOk_lifted (os : Os) (started : os.Started) (H : Type) (enc : TypeId × Value → H) :
    ReturnsInHanded {} Try.checked os 7 .any (Rows.fnExactHierOkSpec.pre6 enc Try.prog Try.f7 Rows.fnExactHierOkRow.domain false) (Rows.fnExactHierOkSpec.post enc Try.prog Try.f7 false true false false) := by
  refine returnsInHanded_of_change (C := Try.checked) Try.own started (by kernel_rfl) Try.func7
    (ChangeSpec.witness6 (enc := enc) (C := Try.checked) false ⟨#[], #[.agg #[.int .i64 0, .slice none 0 0], .agg #[.slice none 0 0, .slice none 0 0]], []⟩ 8 (by kernel_rfl) (by kernel_rfl) (by kernel_rfl) (by kernel_rfl)) ?_
  intro W base args ds gs before hval0 hW hcnd _
  have hval : ∀ (j : Nat) t v, Try.f7.params[j]? = some t → args[j]? = some v → Value.okWide Try.prog W .any base t v := hval0
  have hW' := hW
  obtain ⟨p, q, hA0, hV, rfl, hfz, hnd⟩ := hW
  have hA : DataW.TrodAll enc Try.prog W 0 (fun _ => true) true Try.f7.params.toList args.toList ds p := hA0
  rw [Try.params7] at hA hval
  obtain ⟨v0, vs0, d0, ds0, p0, q0, hargs, rfl, rfl, h0, r0⟩ := trodAll_cons hA
  obtain ⟨v1, vs1, d1, ds1, p1, q1, rfl, rfl, rfl, h1, r1⟩ := trodAll_cons r0
  obtain ⟨rfl, rfl, rfl⟩ := trodAll_nil r1
  obtain rfl : args = #[v0, v1] := by cases args; simp_all
  obtain ⟨rfl, rfl⟩ := trodVars_none hV
  have k0 := h0
  have lt0 : ∀ x ∈ p0, x.block < W.heap.size := by obtain ⟨m, hm⟩ := k0; exact DataW.trod_lt m _ _ _ hm
  have k1 := h1
  have lt1 : ∀ x ∈ p1, x.block < W.heap.size := by obtain ⟨m, hm⟩ := k1; exact DataW.trod_lt m _ _ _ hm
  obtain ⟨c00, c01, y00, y01, f0, rfl, _, _, hy00, hy01⟩ := open_agg2 Try.underlying38 (by kernel_rfl) Try.cellsLGraph (hval 0 38 v0 rfl rfl) h0
  obtain ⟨pl0, e00, _, _⟩ := DataW.trod_int Try.underlying2 hy00
  obtain ⟨ao0, n0, cap0, F0, T0, G0, e01, hn0, hr0⟩ := open_arcs hy01
  simp at e00 e01
  subst e00 e01
  obtain ⟨c10, c11, y10, y11, f1, rfl, _, _, hy10, hy11⟩ := open_agg2 Try.underlying53 (by kernel_rfl) Try.cellsLHier (hval 1 53 v1 rfl rfl) h1
  obtain ⟨ao1, n1, cap1, P1, e10, hn1, hr1, wf1⟩ := open_nums hy10
  obtain ⟨eo1, m1, ecap1, L1, H1, e11, hm1, he1, wl1, wh1⟩ := open_edges hy11
  simp at e10 e11
  subst e10 e11
  clear hA0 hval0
  refine (lawHierOk_walk pl0 ao0 n0 cap0 F0 T0 G0 ao1 n1 cap1 P1 eo1 m1 ecap1 L1 H1 hn0 hn1 hm1 W hr0 hr1 he1 ).mono fun e W' ⟨he, bel⟩ => ?_
  subst he
  exact ⟨_, rfl, _, _, _, [], _, [], hW', trodAll_mk1 (shut_bool Try.underlying4 _), (trodAll_cons_mk (Below.trod Try.laidOut (by kernel_rfl) (of_decide_eq_true (by kernel_rfl)) k0 bel lt0) (trodAll_cons_mk (Below.trod Try.laidOut (by kernel_rfl) (of_decide_eq_true (by kernel_rfl)) k1 bel lt1) trodAll_mk0)), rfl, bel.frame _, fun h => by cases h⟩

theorem fnExactHierOk_holds : Rows.FnExactHierOkSaid :=
  OpenClaim.holds_of_wide 7 Try.f7 rfl rfl rfl rfl rfl rfl rfl ⟨rfl, rfl, rfl, rfl, rfl⟩ rfl rfl rfl rfl rfl (by kernel_rfl) Try.func7 (by kernel_rfl)
    (of_decide_eq_true (by kernel_rfl)) (by unfold Func.isWrapper; first | (rw [if_pos (by decide +kernel)]; kernel_rfl) | (rw [if_neg (by decide +kernel)]; exact ⟨rfl, rfl⟩))
    (fun os started H enc _ => lawHierOk_lifted os started H enc)
#print axioms fnExactHierOk_holds

end Go.Proofs.Ytganjllofgggjag
