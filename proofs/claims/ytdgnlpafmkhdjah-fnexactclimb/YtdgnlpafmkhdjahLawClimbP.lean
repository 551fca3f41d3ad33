/-
  Proved: at every hierarchy, every metric, every rank and either direction the law FnExactClimb answers true, and its arguments read behind the call as they read before. No condition.
-/
import Derived.Test.YtdgnlpafmkhdjahPack6
import Derived.Test.YtdgnlpafmkhdjahPack7
set_option linter.unusedVariables false
set_option linter.unusedSimpArgs false
namespace Go.Proofs.Ytdgnlpafmkhdjah
open Go.ChangeShapes Go.WideShapes Go.ChangeAt Go.RowKit Go.Deep Go.Joins
attribute [local go_sem ↓] Go.wp_at_zero Go.wp_at_succ

set_option maxHeartbeats 8000000 in
theorem lawClimb_walk (po : Option Addr) (k pcap : Nat) (P : Nat → Int) (eo : Option Addr) (m ecap : Nat) (L H : Nat → Int) (uo : Option Addr) (u ucap : Nat) (U : Nat → Int) (vo : Option Addr) (v vcap : Nat) (V : Nat → Int) (cs : Int) (ds : Bool) (hkM : k ≤ maxLen) (hmM : m ≤ maxLen) (huM : u ≤ maxLen) (hvM : v ≤ maxLen) (w : World) (hp : IRow w po k P) (he : ERow w eo m L H) (hu : IRow w uo u U) (hv : IRow w vo v V) :
    Calls Try.prog 5 #[.agg #[.slice po k pcap, .slice eo m ecap], .agg #[.slice uo u ucap, .slice vo v vcap], .int .i64 cs, .bool ds] w fun e w' => e = .returned (.bool true) ∧ Below w.heap.size w w' := by
  unfold maxLen at hkM hmM huM hvM
  by_cases hbig0 : 1048576 < 0 + (k : Int) + (m : Int)
  · go_enter Try.func5, Try.ntmps5
    have hB0 : Below w.heap.size w ((w.alloc (.cells #[.slice po k pcap, .slice eo m ecap] 25)).alloc (.cells #[.slice uo u ucap, .slice vo v vcap] 27)) := (((Below.refl _ w).alloc (Nat.le_refl _) _).alloc (by simp) _)
    go_wp2_with fail
    refine (szHier_out po k pcap eo m ecap (1048576) (by omega) (by omega) (by omega) (by omega) (by omega) _).mono ?_
    rintro e z0 ⟨rfl, hz0⟩
    replace hB0 := below_next hB0 (Nat.le_refl _) hz0
    go_wp2
    go_ret
    exact ⟨rfl, hB0⟩
  by_cases hbig1 : 1048576 < (k : Int) + (m : Int) + (u : Int) + (v : Int)
  · go_enter Try.func5, Try.ntmps5
    have hB0 : Below w.heap.size w ((w.alloc (.cells #[.slice po k pcap, .slice eo m ecap] 25)).alloc (.cells #[.slice uo u ucap, .slice vo v vcap] 27)) := (((Below.refl _ w).alloc (Nat.le_refl _) _).alloc (by simp) _)
    go_wp2_with fail
    refine (szHier_in po k pcap eo m ecap (1048576) (by omega) (by omega) _).mono ?_
    rintro e z0 ⟨rfl, hz0⟩
    replace hB0 := below_next hB0 (Nat.le_refl _) hz0
    have y000 := keep_cell hz0 (Nat.le_refl _) (b := w.heap.size) (o := 0) (by simp [go_sem]; rfl)
    have y001 := keep_cell hz0 (Nat.le_refl _) (b := w.heap.size) (o := 1) (by simp [go_sem]; rfl)
    have y010 := keep_cell hz0 (Nat.le_refl _) (b := w.heap.size + 1) (o := 0) (by simp [go_sem]; rfl)
    have y011 := keep_cell hz0 (Nat.le_refl _) (b := w.heap.size + 1) (o := 1) (by simp [go_sem]; rfl)
    go_wp2_with fail
    refine (szMetric_out uo u ucap vo v vcap (1048576 - k - m) (by omega) (by omega) (by omega) (by omega) (by omega) _).mono ?_
    rintro e z1 ⟨rfl, hz1⟩
    replace hB0 := below_next hB0 (Nat.le_refl _) hz1
    go_wp2
    go_ret
    exact ⟨rfl, hB0⟩
  have hk : k ≤ 1048576 := by omega
  have hm : m ≤ 1048576 := by omega
  have hu9 : u ≤ 1048576 := by omega
  have hv9 : v ≤ 1048576 := by omega
  obtain ⟨N, hN⟩ : ∃ N, lenC k m L H u U v V cs = N := ⟨_, rfl⟩
  obtain ⟨D, hD⟩ : ∃ D, cl L H (wts U V ds) cs.toNat m = D := ⟨_, rfl⟩
  have hN24 : N ≤ 24 := by rw [← hN]; exact lenC_le ..
  have HSP : Hid (∀ po' pcap' eo' ecap' uo' ucap' vo' vcap' W, ERow W eo' m L H → IRow W uo' u U → IRow W vo' v V → Calls Try.prog 31 #[.agg #[.slice po' k pcap', .slice eo' m ecap'], .agg #[.slice uo' u ucap', .slice vo' v vcap'], .int .i64 cs, .bool ds] W fun e w' => Ans W w' e N D) := fun po' pcap' eo' ecap' uo' ucap' vo' vcap' W h1 h2 h3 => by rw [← hN, ← hD]; exact specClimb_any po' k pcap' eo' m ecap' L H uo' u ucap' U vo' v vcap' V cs ds hk hm hu9 hv9 W h1 h2 h3
  have HIM : Hid (∀ po' pcap' eo' ecap' uo' ucap' vo' vcap' W, ERow W eo' m L H → IRow W uo' u U → IRow W vo' v V → Calls Try.prog 32 #[.agg #[.slice po' k pcap', .slice eo' m ecap'], .agg #[.slice uo' u ucap', .slice vo' v vcap'], .int .i64 cs, .bool ds] W fun e w' => Ans W w' e N D) := fun po' pcap' eo' ecap' uo' ucap' vo' vcap' W h1 h2 h3 => by rw [← hN, ← hD]; exact implClimb_any po' k pcap' eo' m ecap' L H uo' u ucap' U vo' v vcap' V cs ds hk hm hu9 hv9 W h1 h2 h3
  clear hN hD
  have hN9 : N ≤ 1048576 := by omega
  go_enter Try.func5, Try.ntmps5
  have hB : Below w.heap.size w ((w.alloc (.cells #[.slice po k pcap, .slice eo m ecap] 25)).alloc (.cells #[.slice uo u ucap, .slice vo v vcap] 27)) := (((Below.refl _ w).alloc (Nat.le_refl _) _).alloc (by simp) _)
  have y00 : ((w.alloc (.cells #[.slice po k pcap, .slice eo m ecap] 25)).alloc (.cells #[.slice uo u ucap, .slice vo v vcap] 27)).cell? ⟨w.heap.size, 0, none⟩ = some (.slice po k pcap) := by simp [go_sem]
  have y01 : ((w.alloc (.cells #[.slice po k pcap, .slice eo m ecap] 25)).alloc (.cells #[.slice uo u ucap, .slice vo v vcap] 27)).cell? ⟨w.heap.size, 1, none⟩ = some (.slice eo m ecap) := by simp [go_sem]
  have y10 : ((w.alloc (.cells #[.slice po k pcap, .slice eo m ecap] 25)).alloc (.cells #[.slice uo u ucap, .slice vo v vcap] 27)).cell? ⟨w.heap.size + 1, 0, none⟩ = some (.slice uo u ucap) := by simp [go_sem]
  have y11 : ((w.alloc (.cells #[.slice po k pcap, .slice eo m ecap] 25)).alloc (.cells #[.slice uo u ucap, .slice vo v vcap] 27)).cell? ⟨w.heap.size + 1, 1, none⟩ = some (.slice vo v vcap) := by simp [go_sem]
  have sz0 : ((w.alloc (.cells #[.slice po k pcap, .slice eo m ecap] 25)).alloc (.cells #[.slice uo u ucap, .slice vo v vcap] 27)).heap.size = w.heap.size + 2 := by simp
  go_wp2_with fail
  refine (szHier_in po k pcap eo m ecap (1048576) (by omega) (by omega) _).mono ?_
  rintro e w1 ⟨rfl, hbz⟩
  replace y00 := keep_cell hbz (Nat.le_refl _) y00
  replace y01 := keep_cell hbz (Nat.le_refl _) y01
  replace y10 := keep_cell hbz (Nat.le_refl _) y10
  replace y11 := keep_cell hbz (Nat.le_refl _) y11
  replace hB := below_next hB (Nat.le_refl _) hbz
  have sz1 := hbz.size
  clear hbz
  go_wp2_with fail
  refine (szMetric_in uo u ucap vo v vcap (1048576 - k - m) (by omega) (by omega) _).mono ?_
  rintro e w2 ⟨rfl, hbz⟩
  replace y00 := keep_cell hbz (Nat.le_refl _) y00
  replace y01 := keep_cell hbz (Nat.le_refl _) y01
  replace y10 := keep_cell hbz (Nat.le_refl _) y10
  replace y11 := keep_cell hbz (Nat.le_refl _) y11
  replace hB := below_next hB (Nat.le_refl _) hbz
  have sz2 := hbz.size
  clear hbz
  go_wp2_with fail
  have hbd := (Below.refl w2.heap.size w2).drew
  replace y00 := keep_cell hbd (Nat.le_refl _) y00
  replace y01 := keep_cell hbd (Nat.le_refl _) y01
  replace y10 := keep_cell hbd (Nat.le_refl _) y10
  replace y11 := keep_cell hbd (Nat.le_refl _) y11
  replace hB := below_next hB (Nat.le_refl _) hbd
  have sz2 := hbd.size
  clear hbd
  go_region_held3 (fun w' => w'.cell? ⟨w.heap.size, 0, none⟩ = some (.slice po k pcap) ∧ w'.cell? ⟨w.heap.size, 1, none⟩ = some (.slice eo m ecap) ∧ w'.cell? ⟨w.heap.size + 1, 0, none⟩ = some (.slice uo u ucap) ∧ w'.cell? ⟨w.heap.size + 1, 1, none⟩ = some (.slice vo v vcap))
    (first | (go_split_ands; refine ⟨?_, ?_, ?_, ?_⟩ <;> exact keep_cell hbF (Nat.le_refl _) (by assumption)) | (go_split_ands; refine ⟨?_, ?_, ?_, ?_⟩ <;> exact keep_cell hbs1 (Nat.le_refl _) (by assumption)) | (go_split_ands; refine ⟨?_, ?_, ?_, ?_⟩ <;> exact keep_cell hbs0 (Nat.le_refl _) (by assumption)) | go_keep)
    (first | (go_at_call 12; refine (toHier_any po k pcap P eo m ecap L H hk hm _ (hp.below hB (Nat.le_refl _)) (he.below hB (Nat.le_refl _))).mono ?_; rintro e w3 ⟨bs0, cs0, rfl, hls0, hms0, os0, os0c, hbs0⟩; have hBs0 := below_next hB (Nat.le_refl _) hbs0) | (go_at_call 13; refine (toMetric_any uo u ucap U vo v vcap V hu9 hv9 _ (hu.below hBs0 (Nat.le_refl _)) (hv.below hBs0 (Nat.le_refl _))).mono ?_; rintro e w4 ⟨bs1, cs1, rfl, hls1, hms1, os1, os1c, hbs1⟩; have hBs1 := below_next hBs0 (Nat.le_refl _) hbs1) | (go_at_call 31; refine (HSP.out _ _ _ _ _ _ _ _ _ (os0c.row.below hbs1 (Nat.le_refl _)) os1.row os1c.row).mono ?_; rintro e w5 ⟨aoW, capW, rfl, hW, hbF⟩))
  replace y00 := keep_cell hbs0 (Nat.le_refl _) y00
  replace y01 := keep_cell hbs0 (Nat.le_refl _) y01
  replace y10 := keep_cell hbs0 (Nat.le_refl _) y10
  replace y11 := keep_cell hbs0 (Nat.le_refl _) y11
  replace hB := below_next hB (Nat.le_refl _) hbs0
  have szw3 := hbs0.size
  replace y00 := keep_cell hbs1 (Nat.le_refl _) y00
  replace y01 := keep_cell hbs1 (Nat.le_refl _) y01
  replace y10 := keep_cell hbs1 (Nat.le_refl _) y10
  replace y11 := keep_cell hbs1 (Nat.le_refl _) y11
  replace hB := below_next hB (Nat.le_refl _) hbs1
  have szw4 := hbs1.size
  replace y00 := keep_cell hbF (Nat.le_refl _) y00
  replace y01 := keep_cell hbF (Nat.le_refl _) y01
  replace y10 := keep_cell hbF (Nat.le_refl _) y10
  replace y11 := keep_cell hbF (Nat.le_refl _) y11
  replace hB := below_next hB (Nat.le_refl _) hbF
  have szw5 := hbF.size
  clear hBs0 hBs1
  obtain ⟨bW, eW, iW, lW, uW⟩ := pick1 hW (fun _ h => h.lt)
  clear hW hbF hls0 hms0 hls1 hms1 os0 os0c os1 os1c hbs0 hbs1
  go_wp2_with fail
  refine (toHier_any po k pcap P eo m ecap L H hk hm _ (hp.below hB (Nat.le_refl _)) (he.below hB (Nat.le_refl _))).mono ?_
  rintro e w6 ⟨b0, c0, rfl, hl0, hm0, o0, o0c, hb0⟩
  replace y00 := keep_cell hb0 (Nat.le_refl _) y00
  replace y01 := keep_cell hb0 (Nat.le_refl _) y01
  replace y10 := keep_cell hb0 (Nat.le_refl _) y10
  replace y11 := keep_cell hb0 (Nat.le_refl _) y11
  replace iW := fun x => (iW x).below hb0 (iW x).lt
  replace hB := below_next hB (Nat.le_refl _) hb0
  have szw6 := hb0.size
  clear hb0
  have o0l := o0.lt
  have o0cl := o0c.lt
  have hal7 := (Below.refl w6.heap.size w6).alloc (Nat.le_refl _) (.cells #[.slice (some ⟨b0, 0, none⟩) k k, .slice (some ⟨c0, 0, none⟩) m m] 33)
  replace y00 := keep_cell hal7 (Nat.le_refl _) y00
  replace y01 := keep_cell hal7 (Nat.le_refl _) y01
  replace y10 := keep_cell hal7 (Nat.le_refl _) y10
  replace y11 := keep_cell hal7 (Nat.le_refl _) y11
  replace iW := fun x => (iW x).below hal7 (iW x).lt
  replace o0 := o0.below hal7 o0.lt
  replace o0c := o0c.below hal7 o0c.lt
  replace hB := below_next hB (Nat.le_refl _) hal7
  have z00 : (w6.alloc (.cells #[.slice (some ⟨b0, 0, none⟩) k k, .slice (some ⟨c0, 0, none⟩) m m] 33)).cell? ⟨w6.heap.size, 0, none⟩ = some (.slice (some ⟨b0, 0, none⟩) k k) := by simp [go_sem]
  have z01 : (w6.alloc (.cells #[.slice (some ⟨b0, 0, none⟩) k k, .slice (some ⟨c0, 0, none⟩) m m] 33)).cell? ⟨w6.heap.size, 1, none⟩ = some (.slice (some ⟨c0, 0, none⟩) m m) := by simp [go_sem]
  have sz7 : (w6.alloc (.cells #[.slice (some ⟨b0, 0, none⟩) k k, .slice (some ⟨c0, 0, none⟩) m m] 33)).heap.size = w6.heap.size + 1 := by simp
  clear hal7
  go_wp2_with fail
  refine (toMetric_any uo u ucap U vo v vcap V hu9 hv9 _ (hu.below hB (Nat.le_refl _)) (hv.below hB (Nat.le_refl _))).mono ?_
  rintro e w8 ⟨b1, c1, rfl, hl1, hm1, o1, o1c, hb1⟩
  replace y00 := keep_cell hb1 (Nat.le_refl _) y00
  replace y01 := keep_cell hb1 (Nat.le_refl _) y01
  replace y10 := keep_cell hb1 (Nat.le_refl _) y10
  replace y11 := keep_cell hb1 (Nat.le_refl _) y11
  replace iW := fun x => (iW x).below hb1 (iW x).lt
  replace o0 := o0.below hb1 o0.lt
  replace o0c := o0c.below hb1 o0c.lt
  replace z00 := keep_cell hb1 (Nat.le_refl _) z00
  replace z01 := keep_cell hb1 (Nat.le_refl _) z01
  replace hB := below_next hB (Nat.le_refl _) hb1
  have szw8 := hb1.size
  clear hb1
  have o1l := o1.lt
  have o1cl := o1c.lt
  have hal9 := (Below.refl w8.heap.size w8).alloc (Nat.le_refl _) (.cells #[.slice (some ⟨b1, 0, none⟩) u u, .slice (some ⟨c1, 0, none⟩) v v] 35)
  replace y00 := keep_cell hal9 (Nat.le_refl _) y00
  replace y01 := keep_cell hal9 (Nat.le_refl _) y01
  replace y10 := keep_cell hal9 (Nat.le_refl _) y10
  replace y11 := keep_cell hal9 (Nat.le_refl _) y11
  replace iW := fun x => (iW x).below hal9 (iW x).lt
  replace o0 := o0.below hal9 o0.lt
  replace o0c := o0c.below hal9 o0c.lt
  replace z00 := keep_cell hal9 (Nat.le_refl _) z00
  replace z01 := keep_cell hal9 (Nat.le_refl _) z01
  replace o1 := o1.below hal9 o1.lt
  replace o1c := o1c.below hal9 o1c.lt
  replace hB := below_next hB (Nat.le_refl _) hal9
  have z10 : (w8.alloc (.cells #[.slice (some ⟨b1, 0, none⟩) u u, .slice (some ⟨c1, 0, none⟩) v v] 35)).cell? ⟨w8.heap.size, 0, none⟩ = some (.slice (some ⟨b1, 0, none⟩) u u) := by simp [go_sem]
  have z11 : (w8.alloc (.cells #[.slice (some ⟨b1, 0, none⟩) u u, .slice (some ⟨c1, 0, none⟩) v v] 35)).cell? ⟨w8.heap.size, 1, none⟩ = some (.slice (some ⟨c1, 0, none⟩) v v) := by simp [go_sem]
  have sz9 : (w8.alloc (.cells #[.slice (some ⟨b1, 0, none⟩) u u, .slice (some ⟨c1, 0, none⟩) v v] 35)).heap.size = w8.heap.size + 1 := by simp
  clear hal9
  go_wp2_with fail
  refine (HIM.out _ _ _ _ _ _ _ _ _ o0c.row o1.row o1c.row).mono ?_
  rintro e w10 ⟨aoX, capX, rfl, hWi, hbF⟩
  replace y00 := keep_cell hbF (Nat.le_refl _) y00
  replace y01 := keep_cell hbF (Nat.le_refl _) y01
  replace y10 := keep_cell hbF (Nat.le_refl _) y10
  replace y11 := keep_cell hbF (Nat.le_refl _) y11
  replace iW := fun x => (iW x).below hbF (iW x).lt
  replace o0 := o0.below hbF o0.lt
  replace o0c := o0c.below hbF o0c.lt
  replace z00 := keep_cell hbF (Nat.le_refl _) z00
  replace z01 := keep_cell hbF (Nat.le_refl _) z01
  replace o1 := o1.below hbF o1.lt
  replace o1c := o1c.below hbF o1c.lt
  replace z10 := keep_cell hbF (Nat.le_refl _) z10
  replace z11 := keep_cell hbF (Nat.le_refl _) z11
  replace hB := below_next hB (Nat.le_refl _) hbF
  have szw10 := hbF.size
  obtain ⟨bX, eX, iX, lX, uX⟩ := pick1 hWi (fun _ h => h.lt)
  clear hWi hbF
  go_wp2_with fail
  refine (eqInt64S_same _ _ N _ _ D hN9 _ (irow_at eX iX) (irow_at eW iW)).mono ?_
  rintro e w11 ⟨rfl, hbq⟩
  replace y00 := keep_cell hbq (Nat.le_refl _) y00
  replace y01 := keep_cell hbq (Nat.le_refl _) y01
  replace y10 := keep_cell hbq (Nat.le_refl _) y10
  replace y11 := keep_cell hbq (Nat.le_refl _) y11
  replace iW := fun x => (iW x).below hbq (iW x).lt
  replace o0 := o0.below hbq o0.lt
  replace o0c := o0c.below hbq o0c.lt
  replace z00 := keep_cell hbq (Nat.le_refl _) z00
  replace z01 := keep_cell hbq (Nat.le_refl _) z01
  replace o1 := o1.below hbq o1.lt
  replace o1c := o1c.below hbq o1c.lt
  replace z10 := keep_cell hbq (Nat.le_refl _) z10
  replace z11 := keep_cell hbq (Nat.le_refl _) z11
  replace iX := fun x => (iX x).below hbq (iX x).lt
  replace hB := below_next hB (Nat.le_refl _) hbq
  have szw11 := hbq.size
  clear hbq
  go_wp2_with fail
  have hbd := (Below.refl w11.heap.size w11).drew
  replace y00 := keep_cell hbd (Nat.le_refl _) y00
  replace y01 := keep_cell hbd (Nat.le_refl _) y01
  replace y10 := keep_cell hbd (Nat.le_refl _) y10
  replace y11 := keep_cell hbd (Nat.le_refl _) y11
  replace iW := fun x => (iW x).below hbd (iW x).lt
  replace o0 := o0.below hbd o0.lt
  replace o0c := o0c.below hbd o0c.lt
  replace z00 := keep_cell hbd (Nat.le_refl _) z00
  replace z01 := keep_cell hbd (Nat.le_refl _) z01
  replace o1 := o1.below hbd o1.lt
  replace o1c := o1c.below hbd o1c.lt
  replace z10 := keep_cell hbd (Nat.le_refl _) z10
  replace z11 := keep_cell hbd (Nat.le_refl _) z11
  replace iX := fun x => (iX x).below hbd (iX x).lt
  replace hB := below_next hB (Nat.le_refl _) hbd
  have sz11 := hbd.size
  clear hbd
  go_region_held3 (fun w' => w'.cell? ⟨w6.heap.size, 0, none⟩ = some (.slice (some ⟨b0, 0, none⟩) k k) ∧ w'.cell? ⟨w6.heap.size, 1, none⟩ = some (.slice (some ⟨c0, 0, none⟩) m m) ∧ w'.cell? ⟨w.heap.size, 0, none⟩ = some (.slice po k pcap) ∧ w'.cell? ⟨w.heap.size, 1, none⟩ = some (.slice eo m ecap))
    (first | (go_split_ands; refine ⟨?_, ?_, ?_, ?_⟩ <;> exact keep_cell hbq (Nat.le_refl _) (by assumption)) | (go_split_ands; refine ⟨?_, ?_, ?_, ?_⟩ <;> exact keep_cell hby0 (Nat.le_refl _) (by assumption)) | go_keep)
    (first | (go_at_call 12; refine (toHier_any po k pcap P eo m ecap L H hk hm _ (hp.below hB (Nat.le_refl _)) (he.below hB (Nat.le_refl _))).mono ?_; rintro e w12 ⟨by0, cy0, rfl, hly0, hmy0, oy0, oy0c, hby0⟩) | (go_at_call 15; refine (eqHier_same _ _ k k k P _ _ m m m L H hk hm _ (o0.below hby0 o0.lt).row oy0.row (o0c.below hby0 o0c.lt).row oy0c.row).mono ?_; rintro e w13 ⟨rfl, hbq⟩))
  replace y00 := keep_cell hby0 (Nat.le_refl _) y00
  replace y01 := keep_cell hby0 (Nat.le_refl _) y01
  replace y10 := keep_cell hby0 (Nat.le_refl _) y10
  replace y11 := keep_cell hby0 (Nat.le_refl _) y11
  replace iW := fun x => (iW x).below hby0 (iW x).lt
  replace o0 := o0.below hby0 o0.lt
  replace o0c := o0c.below hby0 o0c.lt
  replace z00 := keep_cell hby0 (Nat.le_refl _) z00
  replace z01 := keep_cell hby0 (Nat.le_refl _) z01
  replace o1 := o1.below hby0 o1.lt
  replace o1c := o1c.below hby0 o1c.lt
  replace z10 := keep_cell hby0 (Nat.le_refl _) z10
  replace z11 := keep_cell hby0 (Nat.le_refl _) z11
  replace iX := fun x => (iX x).below hby0 (iX x).lt
  replace hB := below_next hB (Nat.le_refl _) hby0
  have szw12 := hby0.size
  replace y00 := keep_cell hbq (Nat.le_refl _) y00
  replace y01 := keep_cell hbq (Nat.le_refl _) y01
  replace y10 := keep_cell hbq (Nat.le_refl _) y10
  replace y11 := keep_cell hbq (Nat.le_refl _) y11
  replace iW := fun x => (iW x).below hbq (iW x).lt
  replace o0 := o0.below hbq o0.lt
  replace o0c := o0c.below hbq o0c.lt
  replace z00 := keep_cell hbq (Nat.le_refl _) z00
  replace z01 := keep_cell hbq (Nat.le_refl _) z01
  replace o1 := o1.below hbq o1.lt
  replace o1c := o1c.below hbq o1c.lt
  replace z10 := keep_cell hbq (Nat.le_refl _) z10
  replace z11 := keep_cell hbq (Nat.le_refl _) z11
  replace iX := fun x => (iX x).below hbq (iX x).lt
  replace hB := below_next hB (Nat.le_refl _) hbq
  have szw13 := hbq.size
  clear hbq hby0 hly0 hmy0 oy0 oy0c
  go_wp2_with fail
  have hbd := (Below.refl w13.heap.size w13).drew
  replace y00 := keep_cell hbd (Nat.le_refl _) y00
  replace y01 := keep_cell hbd (Nat.le_refl _) y01
  replace y10 := keep_cell hbd (Nat.le_refl _) y10
  replace y11 := keep_cell hbd (Nat.le_refl _) y11
  replace iW := fun x => (iW x).below hbd (iW x).lt
  replace o0 := o0.below hbd o0.lt
  replace o0c := o0c.below hbd o0c.lt
  replace z00 := keep_cell hbd (Nat.le_refl _) z00
  replace z01 := keep_cell hbd (Nat.le_refl _) z01
  replace o1 := o1.below hbd o1.lt
  replace o1c := o1c.below hbd o1c.lt
  replace z10 := keep_cell hbd (Nat.le_refl _) z10
  replace z11 := keep_cell hbd (Nat.le_refl _) z11
  replace iX := fun x => (iX x).below hbd (iX x).lt
  replace hB := below_next hB (Nat.le_refl _) hbd
  have sz13 := hbd.size
  clear hbd
  go_region_held3 (fun w' => w'.cell? ⟨w8.heap.size, 0, none⟩ = some (.slice (some ⟨b1, 0, none⟩) u u) ∧ w'.cell? ⟨w8.heap.size, 1, none⟩ = some (.slice (some ⟨c1, 0, none⟩) v v) ∧ w'.cell? ⟨w.heap.size + 1, 0, none⟩ = some (.slice uo u ucap) ∧ w'.cell? ⟨w.heap.size + 1, 1, none⟩ = some (.slice vo v vcap))
    (first | (go_split_ands; refine ⟨?_, ?_, ?_, ?_⟩ <;> exact keep_cell hbq (Nat.le_refl _) (by assumption)) | (go_split_ands; refine ⟨?_, ?_, ?_, ?_⟩ <;> exact keep_cell hby1 (Nat.le_refl _) (by assumption)) | go_keep)
    (first | (go_at_call 13; refine (toMetric_any uo u ucap U vo v vcap V hu9 hv9 _ (hu.below hB (Nat.le_refl _)) (hv.below hB (Nat.le_refl _))).mono ?_; rintro e w14 ⟨by1, cy1, rfl, hly1, hmy1, oy1, oy1c, hby1⟩) | (go_at_call 16; refine (eqMetric_same _ _ u u u U _ _ v v v V hu9 hv9 _ (o1.below hby1 o1.lt).row oy1.row (o1c.below hby1 o1c.lt).row oy1c.row).mono ?_; rintro e w15 ⟨rfl, hbq⟩))
  replace y00 := keep_cell hby1 (Nat.le_refl _) y00
  replace y01 := keep_cell hby1 (Nat.le_refl _) y01
  replace y10 := keep_cell hby1 (Nat.le_refl _) y10
  replace y11 := keep_cell hby1 (Nat.le_refl _) y11
  replace iW := fun x => (iW x).below hby1 (iW x).lt
  replace o0 := o0.below hby1 o0.lt
  replace o0c := o0c.below hby1 o0c.lt
  replace z00 := keep_cell hby1 (Nat.le_refl _) z00
  replace z01 := keep_cell hby1 (Nat.le_refl _) z01
  replace o1 := o1.below hby1 o1.lt
  replace o1c := o1c.below hby1 o1c.lt
  replace z10 := keep_cell hby1 (Nat.le_refl _) z10
  replace z11 := keep_cell hby1 (Nat.le_refl _) z11
  replace iX := fun x => (iX x).below hby1 (iX x).lt
  replace hB := below_next hB (Nat.le_refl _) hby1
  have szw14 := hby1.size
  replace y00 := keep_cell hbq (Nat.le_refl _) y00
  replace y01 := keep_cell hbq (Nat.le_refl _) y01
  replace y10 := keep_cell hbq (Nat.le_refl _) y10
  replace y11 := keep_cell hbq (Nat.le_refl _) y11
  replace iW := fun x => (iW x).below hbq (iW x).lt
  replace o0 := o0.below hbq o0.lt
  replace o0c := o0c.below hbq o0c.lt
  replace z00 := keep_cell hbq (Nat.le_refl _) z00
  replace z01 := keep_cell hbq (Nat.le_refl _) z01
  replace o1 := o1.below hbq o1.lt
  replace o1c := o1c.below hbq o1c.lt
  replace z10 := keep_cell hbq (Nat.le_refl _) z10
  replace z11 := keep_cell hbq (Nat.le_refl _) z11
  replace iX := fun x => (iX x).below hbq (iX x).lt
  replace hB := below_next hB (Nat.le_refl _) hbq
  have szw15 := hbq.size
  clear hbq hby1 hly1 hmy1 oy1 oy1c
  go_wp2_with fail
  refine (markHier_any b0 c0 k m k m P (er L H) 1 (by omega) (by omega) hk hm _ (fun _ => o0) (fun _ => o0c) (by omega) _ (fun _ => rfl) _ (fun _ => rfl) o0.lt o0c.lt).mono ?_
  rintro e w16 ⟨rfl, _, _, hg⟩
  have hT := hg
  clear o0 o0c z00 z01
  replace y00 := hT.cell (by simp; omega) y00
  replace y01 := hT.cell (by simp; omega) y01
  replace y10 := hT.cell (by simp; omega) y10
  replace y11 := hT.cell (by simp; omega) y11
  replace iW := fun x => (iW x).of_block (hT.block _ (iW x).lt (by simp; omega))
  replace o1 := o1.of_block (hT.block _ o1.lt (by simp; omega))
  replace o1c := o1c.of_block (hT.block _ o1c.lt (by simp; omega))
  replace z10 := hT.cell (by simp; omega) z10
  replace z11 := hT.cell (by simp; omega) z11
  replace iX := fun x => (iX x).of_block (hT.block _ (iX x).lt (by simp; omega))
  replace hB := hB.trans (hT.below (by omega) (by simp; omega))
  have sz16 := hT.size
  clear hT
  go_wp2_with fail
  refine (markMetric_any b1 c1 u v u v U V (1 + (k : Int) + 2 * (m : Int)) (by omega) (by omega) hu9 hv9 _ (fun _ => o1) (fun _ => o1c) (by omega) _ (fun _ => rfl) _ (fun _ => rfl) o1.lt o1c.lt).mono ?_
  rintro e w17 ⟨rfl, _, _, hg⟩
  have hT := hg
  clear o1 o1c z10 z11
  replace y00 := hT.cell (by simp; omega) y00
  replace y01 := hT.cell (by simp; omega) y01
  replace y10 := hT.cell (by simp; omega) y10
  replace y11 := hT.cell (by simp; omega) y11
  replace iW := fun x => (iW x).of_block (hT.block _ (iW x).lt (by simp; omega))
  replace iX := fun x => (iX x).of_block (hT.block _ (iX x).lt (by simp; omega))
  replace hB := hB.trans (hT.below (by omega) (by simp; omega))
  have sz17 := hT.size
  clear hT
  have hkk : ¬ 1 + (k : Int) + 2 * (m : Int) + (u : Int) + (v : Int) < 0 := by omega
  go_wp2_with fail
  refine (eqInt64S_same _ _ N _ _ D hN9 _ (irow_at eX iX) (irow_at eW iW)).mono ?_
  rintro e w18 ⟨rfl, hbq⟩
  replace y00 := keep_cell hbq (Nat.le_refl _) y00
  replace y01 := keep_cell hbq (Nat.le_refl _) y01
  replace y10 := keep_cell hbq (Nat.le_refl _) y10
  replace y11 := keep_cell hbq (Nat.le_refl _) y11
  replace iW := fun x => (iW x).below hbq (iW x).lt
  replace iX := fun x => (iX x).below hbq (iX x).lt
  replace hB := below_next hB (Nat.le_refl _) hbq
  have szw18 := hbq.size
  clear hbq
  go_wp2_with fail
  refine (markInt64S_any bX N _ D 1 (by omega) (by omega) hN9 _ iX _ eX).mono ?_
  rintro e w19 ⟨rfl, iY, hg⟩
  have hT := Turns.of_grown hg
  clear hg
  clear iX
  replace y00 := hT.cell (by simp; omega) y00
  replace y01 := hT.cell (by simp; omega) y01
  replace y10 := hT.cell (by simp; omega) y10
  replace y11 := hT.cell (by simp; omega) y11
  replace iW := fun x => (iW x).of_block (hT.block _ (iW x).lt (by simp; omega))
  replace hB := hB.trans (hT.below (by omega) (by simp; omega))
  have sz19 := hT.size
  clear hT
  go_wp2_with fail
  refine (heldInt64S_any bX N _ 1 (by omega) (by omega) hN9 _ iY _ eX).mono ?_
  rintro e wq ⟨rfl, hq⟩
  have hq' := hq.symm; subst hq'; clear hq
  go_wp2_with fail
  have hbd := (Below.refl w19.heap.size w19).drew
  replace y00 := keep_cell hbd (Nat.le_refl _) y00
  replace y01 := keep_cell hbd (Nat.le_refl _) y01
  replace y10 := keep_cell hbd (Nat.le_refl _) y10
  replace y11 := keep_cell hbd (Nat.le_refl _) y11
  replace iW := fun x => (iW x).below hbd (iW x).lt
  replace iY := fun x => (iY x).below hbd (iY x).lt
  replace hB := below_next hB (Nat.le_refl _) hbd
  have sz19 := hbd.size
  clear hbd
  go_region_held3 (fun w' => w'.cell? ⟨w.heap.size, 0, none⟩ = some (.slice po k pcap) ∧ w'.cell? ⟨w.heap.size, 1, none⟩ = some (.slice eo m ecap) ∧ w'.cell? ⟨w.heap.size + 1, 0, none⟩ = some (.slice uo u ucap) ∧ w'.cell? ⟨w.heap.size + 1, 1, none⟩ = some (.slice vo v vcap))
    (first | (go_split_ands; refine ⟨?_, ?_, ?_, ?_⟩ <;> exact keep_cell hbF (Nat.le_refl _) (by assumption)) | (go_split_ands; refine ⟨?_, ?_, ?_, ?_⟩ <;> exact keep_cell hbt1 (Nat.le_refl _) (by assumption)) | (go_split_ands; refine ⟨?_, ?_, ?_, ?_⟩ <;> exact keep_cell hbt0 (Nat.le_refl _) (by assumption)) | go_keep)
    (first | (go_at_call 12; refine (toHier_any po k pcap P eo m ecap L H hk hm _ (hp.below hB (Nat.le_refl _)) (he.below hB (Nat.le_refl _))).mono ?_; rintro e w20 ⟨bt0, ct0, rfl, hlt0, hmt0, ot0, ot0c, hbt0⟩; have hBt0 := below_next hB (Nat.le_refl _) hbt0) | (go_at_call 13; refine (toMetric_any uo u ucap U vo v vcap V hu9 hv9 _ (hu.below hBt0 (Nat.le_refl _)) (hv.below hBt0 (Nat.le_refl _))).mono ?_; rintro e w21 ⟨bt1, ct1, rfl, hlt1, hmt1, ot1, ot1c, hbt1⟩; have hBt1 := below_next hBt0 (Nat.le_refl _) hbt1) | (go_at_call 32; refine (HIM.out _ _ _ _ _ _ _ _ _ (ot0c.row.below hbt1 (Nat.le_refl _)) ot1.row ot1c.row).mono ?_; rintro e w22 ⟨aoZ, capZ, rfl, hW, hbF⟩))
  replace y00 := keep_cell hbt0 (Nat.le_refl _) y00
  replace y01 := keep_cell hbt0 (Nat.le_refl _) y01
  replace y10 := keep_cell hbt0 (Nat.le_refl _) y10
  replace y11 := keep_cell hbt0 (Nat.le_refl _) y11
  replace iW := fun x => (iW x).below hbt0 (iW x).lt
  replace iY := fun x => (iY x).below hbt0 (iY x).lt
  replace hB := below_next hB (Nat.le_refl _) hbt0
  have szw20 := hbt0.size
  replace y00 := keep_cell hbt1 (Nat.le_refl _) y00
  replace y01 := keep_cell hbt1 (Nat.le_refl _) y01
  replace y10 := keep_cell hbt1 (Nat.le_refl _) y10
  replace y11 := keep_cell hbt1 (Nat.le_refl _) y11
  replace iW := fun x => (iW x).below hbt1 (iW x).lt
  replace iY := fun x => (iY x).below hbt1 (iY x).lt
  replace hB := below_next hB (Nat.le_refl _) hbt1
  have szw21 := hbt1.size
  replace y00 := keep_cell hbF (Nat.le_refl _) y00
  replace y01 := keep_cell hbF (Nat.le_refl _) y01
  replace y10 := keep_cell hbF (Nat.le_refl _) y10
  replace y11 := keep_cell hbF (Nat.le_refl _) y11
  replace iW := fun x => (iW x).below hbF (iW x).lt
  replace iY := fun x => (iY x).below hbF (iY x).lt
  replace hB := below_next hB (Nat.le_refl _) hbF
  have szw22 := hbF.size
  clear hBt0 hBt1
  obtain ⟨bZ, eZ, iZ, lZ, uZ⟩ := pick1 hW (fun _ h => h.lt)
  clear hW hbF hlt0 hmt0 hlt1 hmt1 ot0 ot0c ot1 ot1c hbt0 hbt1
  go_wp2_with fail
  refine (eqInt64S_same _ _ N _ _ D hN9 _ (irow_at eZ iZ) (irow_at eW iW)).mono ?_
  rintro e w23 ⟨rfl, hbq⟩
  replace y00 := keep_cell hbq (Nat.le_refl _) y00
  replace y01 := keep_cell hbq (Nat.le_refl _) y01
  replace y10 := keep_cell hbq (Nat.le_refl _) y10
  replace y11 := keep_cell hbq (Nat.le_refl _) y11
  replace iW := fun x => (iW x).below hbq (iW x).lt
  replace iY := fun x => (iY x).below hbq (iY x).lt
  replace iZ := fun x => (iZ x).below hbq (iZ x).lt
  replace hB := below_next hB (Nat.le_refl _) hbq
  have szw23 := hbq.size
  clear hbq
  go_wp2_with fail
  refine (heldInt64S_any bX N _ 1 (by omega) (by omega) hN9 _ iY _ eX).mono ?_
  rintro e wq ⟨rfl, hq⟩
  have hq' := hq.symm; subst hq'; clear hq
  go_wp2
  go_ret
  exact ⟨rfl, hB⟩

set_option maxRecDepth 100000 in
theorem lawClimb_lifted (os : Os) (started : os.Started) (H : Type) (enc : TypeId × Value → H) :
    ReturnsInHanded {} Try.checked os 5 .any (Rows.fnExactClimbSpec.pre6 enc Try.prog Try.f5 Rows.fnExactClimbRow.domain false) (Rows.fnExactClimbSpec.post enc Try.prog Try.f5 false true false false) := by
  refine returnsInHanded_of_change (C := Try.checked) Try.own started (by kernel_rfl) Try.func5
    (ChangeSpec.witness6 (enc := enc) (C := Try.checked) false ⟨#[], #[.agg #[.slice none 0 0, .slice none 0 0], .agg #[.slice none 0 0, .slice none 0 0], .int .i64 0, .bool false], []⟩ 8 (by kernel_rfl) (by kernel_rfl) (by kernel_rfl) (by kernel_rfl)) ?_
  intro W base args ds gs before hval0 hW hcnd _
  have hval : ∀ (j : Nat) t v, Try.f5.params[j]? = some t → args[j]? = some v → Value.okWide Try.prog W .any base t v := hval0
  have hW' := hW
  obtain ⟨p, q, hA0, hV, rfl, hfz, hnd⟩ := hW
  have hA : DataW.TrodAll enc Try.prog W 0 (fun _ => true) true Try.f5.params.toList args.toList ds p := hA0
  rw [Try.params5] at hA hval
  obtain ⟨v0, vs0, d0, ds0, p0, q0, hargs, rfl, rfl, h0, r0⟩ := trodAll_cons hA
  obtain ⟨v1, vs1, d1, ds1, p1, q1, rfl, rfl, rfl, h1, r1⟩ := trodAll_cons r0
  obtain ⟨v2, vs2, d2, ds2, p2, q2, rfl, rfl, rfl, h2, r2⟩ := trodAll_cons r1
  obtain ⟨v3, vs3, d3, ds3, p3, q3, rfl, rfl, rfl, h3, r3⟩ := trodAll_cons r2
  obtain ⟨rfl, rfl, rfl⟩ := trodAll_nil r3
  obtain rfl : args = #[v0, v1, v2, v3] := by cases args; simp_all
  obtain ⟨rfl, rfl⟩ := trodVars_none hV
  have k0 := h0
  have lt0 : ∀ x ∈ p0, x.block < W.heap.size := by obtain ⟨m, hm⟩ := k0; exact DataW.trod_lt m _ _ _ hm
  have k1 := h1
  have lt1 : ∀ x ∈ p1, x.block < W.heap.size := by obtain ⟨m, hm⟩ := k1; exact DataW.trod_lt m _ _ _ hm
  obtain ⟨c00, c01, y00, y01, f0, rfl, _, _, hy00, hy01⟩ := open_agg2 Try.underlying25 (by kernel_rfl) Try.cellsLHier (hval 0 25 v0 rfl rfl) h0
  obtain ⟨ao0, n0, cap0, P0, e00, hn0, hr0, wf0⟩ := open_nums hy00
  obtain ⟨eo0, m0, ecap0, L0, H0, e01, hm0, he0, wl0, wh0⟩ := open_edges hy01
  simp at e00 e01
  subst e00 e01
  obtain ⟨c10, c11, y10, y11, f1, rfl, _, _, hy10, hy11⟩ := open_agg2 Try.underlying27 (by kernel_rfl) Try.cellsLMetric (hval 1 27 v1 rfl rfl) h1
  obtain ⟨ao1, n1, cap1, P1, e10, hn1, hr1, wf1⟩ := open_nums hy10
  obtain ⟨eo1, m1, ecap1, L1, e11, hm1, he1, wl1⟩ := open_nums hy11
  simp at e10 e11
  subst e10 e11
  obtain ⟨sc2, rfl, rfl, rfl, wsc2⟩ := open_int Try.underlying2 (hval 2 2 v2 rfl rfl) h2
  obtain ⟨sc3, rfl⟩ := okWide_bool Try.underlying4 (hval 3 4 v3 rfl rfl)
  obtain ⟨fb3, hfb3⟩ := h3
  obtain ⟨sd3, eb3, xb3⟩ := DataW.trod_bool Try.underlying4 hfb3
  simp [Value.cells] at eb3
  subst eb3
  simp only [Prod.mk.injEq] at xb3
  obtain ⟨rfl, rfl⟩ := xb3
  clear hA0 hval0
  refine (lawClimb_walk ao0 n0 cap0 P0 eo0 m0 ecap0 L0 H0 ao1 n1 cap1 P1 eo1 m1 ecap1 L1 sc2 sc3 hn0 hm0 hn1 hm1 W hr0 he0 hr1 he1 ).mono fun e W' ⟨he, bel⟩ => ?_
  subst he
  exact ⟨_, rfl, _, _, _, [], _, [], hW', trodAll_mk1 (shut_bool Try.underlying4 _), (trodAll_cons_mk (Below.trod Try.laidOut (by kernel_rfl) (of_decide_eq_true (by kernel_rfl)) k0 bel lt0) (trodAll_cons_mk (Below.trod Try.laidOut (by kernel_rfl) (of_decide_eq_true (by kernel_rfl)) k1 bel lt1) (trodAll_cons_mk (shut_int Try.underlying2 wsc2) (trodAll_cons_mk (shut_bool Try.underlying4 _) trodAll_mk0)))), rfl, bel.frame _, fun h => by cases h⟩

theorem fnExactClimb_holds : Rows.FnExactClimbSaid :=
  OpenClaim.holds_of_wide 5 Try.f5 rfl rfl rfl rfl rfl rfl rfl ⟨rfl, rfl, rfl, rfl, rfl⟩ rfl rfl rfl rfl rfl (by kernel_rfl) Try.func5 (by kernel_rfl)
    (of_decide_eq_true (by kernel_rfl)) (by unfold Func.isWrapper; first | (rw [if_pos (by decide +kernel)]; kernel_rfl) | (rw [if_neg (by decide +kernel)]; exact ⟨rfl, rfl⟩))
    (fun os started H enc _ => lawClimb_lifted os started H enc)
#print axioms fnExactClimb_holds

end Go.Proofs.Ytdgnlpafmkhdjah
