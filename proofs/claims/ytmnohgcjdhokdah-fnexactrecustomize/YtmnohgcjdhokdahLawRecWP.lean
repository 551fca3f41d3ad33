/-
  The walk of the law: at every map, every hierarchy, every metric and every list of arcs the law FnExactRecustomize answers true, and its arguments read behind the call as they read before. No condition.
-/
import Derived.Test.YtmnohgcjdhokdahRecBP
import Derived.Test.YtmnohgcjdhokdahRecRP
import Derived.Test.YtmnohgcjdhokdahRecQP
import Derived.Test.YtmnohgcjdhokdahPack10
import Derived.Test.YtmnohgcjdhokdahLeafCP
import Derived.Test.YtmnohgcjdhokdahLeafBP
import Derived.Test.YtmnohgcjdhokdahOpenWfP
set_option linter.unusedVariables false
set_option linter.unusedSimpArgs false
namespace Go.Proofs.Ytmnohgcjdhokdah
open Go.ChangeShapes Go.WideShapes Go.ChangeAt Go.RowKit Go.Deep Go.Joins
attribute [local go_sem ↓] Go.wp_at_zero Go.wp_at_succ

set_option maxRecDepth 100000 in
set_option maxHeartbeats 0 in
theorem lawRecustomize_walk (p : Int) (ao : Option Addr) (n cap : Nat) (F T G : Nat → Int) (po : Option Addr) (k pcap : Nat) (P : Nat → Int) (eo : Option Addr) (m ecap : Nat) (L H : Nat → Int) (uo : Option Addr) (u ucap : Nat) (U : Nat → Int) (vo : Option Addr) (v vcap : Nat) (V : Nat → Int) (so : Option Addr) (s scap : Nat) (A B C : Nat → Int) (hnM : n ≤ maxLen) (hkM : k ≤ maxLen) (hmM : m ≤ maxLen) (huM : u ≤ maxLen) (hvM : v ≤ maxLen) (hsM : s ≤ maxLen) (hwfA : WfTo A B s) (w : World) (hr : Row w ao n F T G) (hp : IRow w po k P) (he : ERow w eo m L H) (hu : IRow w uo u U) (hv : IRow w vo v V) (ha : Row w so s A B C) :
    Calls Try.prog 4 #[.agg #[.int .i64 p, .slice ao n cap], .agg #[.slice po k pcap, .slice eo m ecap], .agg #[.slice uo u ucap, .slice vo v vcap], .slice so s scap] w fun e w' => e = .returned (.bool true) ∧ Below w.heap.size w w' := by
  unfold maxLen at hnM hkM hmM huM hvM hsM
  by_cases hbig0 : 1048576 < 0 + (n : Int)
  · go_enter Try.func4, Try.ntmps4
    have hB0 : Below w.heap.size w (((w.alloc (.cells #[.int .i64 p, .slice ao n cap] 42)).alloc (.cells #[.slice po k pcap, .slice eo m ecap] 25)).alloc (.cells #[.slice uo u ucap, .slice vo v vcap] 27)) := ((((Below.refl _ w).alloc (Nat.le_refl _) _).alloc (by simp) _).alloc (by simp; omega) _)
    go_wp2_with fail
    refine (szGraph_out p ao n cap (1048576) (by omega) (by omega) (by omega) (by omega) _).mono ?_
    rintro e z0 ⟨rfl, hz0⟩
    replace hB0 := below_next hB0 (Nat.le_refl _) hz0
    go_wp2
    go_ret
    exact ⟨rfl, hB0⟩
  by_cases hbig1 : 1048576 < (n : Int) + (k : Int) + (m : Int)
  · go_enter Try.func4, Try.ntmps4
    have hB0 : Below w.heap.size w (((w.alloc (.cells #[.int .i64 p, .slice ao n cap] 42)).alloc (.cells #[.slice po k pcap, .slice eo m ecap] 25)).alloc (.cells #[.slice uo u ucap, .slice vo v vcap] 27)) := ((((Below.refl _ w).alloc (Nat.le_refl _) _).alloc (by simp) _).alloc (by simp; omega) _)
    go_wp2_with fail
    refine (szGraph_in p ao n cap (1048576) (by omega) (by omega) _).mono ?_
    rintro e z0 ⟨rfl, hz0⟩
    replace hB0 := below_next hB0 (Nat.le_refl _) hz0
    have y000 := keep_cell hz0 (Nat.le_refl _) (b := w.heap.size) (o := 0) (by simp [go_sem]; rfl)
    have y001 := keep_cell hz0 (Nat.le_refl _) (b := w.heap.size) (o := 1) (by simp [go_sem]; rfl)
    have y010 := keep_cell hz0 (Nat.le_refl _) (b := w.heap.size + 1) (o := 0) (by simp [go_sem]; rfl)
    have y011 := keep_cell hz0 (Nat.le_refl _) (b := w.heap.size + 1) (o := 1) (by simp [go_sem]; rfl)
    have y020 := keep_cell hz0 (Nat.le_refl _) (b := w.heap.size + 1 + 1) (o := 0) (by simp [go_sem]; rfl)
    have y021 := keep_cell hz0 (Nat.le_refl _) (b := w.heap.size + 1 + 1) (o := 1) (by simp [go_sem]; rfl)
    go_wp2_with fail
    refine (szHier_out po k pcap eo m ecap (1048576 - n) (by omega) (by omega) (by omega) (by omega) (by omega) _).mono ?_
    rintro e z1 ⟨rfl, hz1⟩
    replace hB0 := below_next hB0 (Nat.le_refl _) hz1
    go_wp2
    go_ret
    exact ⟨rfl, hB0⟩
  by_cases hbig2 : 1048576 < (n : Int) + (k : Int) + (m : Int) + (u : Int) + (v : Int)
  · go_enter Try.func4, Try.ntmps4
    have hB0 : Below w.heap.size w (((w.alloc (.cells #[.int .i64 p, .slice ao n cap] 42)).alloc (.cells #[.slice po k pcap, .slice eo m ecap] 25)).alloc (.cells #[.slice uo u ucap, .slice vo v vcap] 27)) := ((((Below.refl _ w).alloc (Nat.le_refl _) _).alloc (by simp) _).alloc (by simp; omega) _)
    go_wp2_with fail
    refine (szGraph_in p ao n cap (1048576) (by omega) (by omega) _).mono ?_
    rintro e z0 ⟨rfl, hz0⟩
    replace hB0 := below_next hB0 (Nat.le_refl _) hz0
    have y000 := keep_cell hz0 (Nat.le_refl _) (b := w.heap.size) (o := 0) (by simp [go_sem]; rfl)
    have y001 := keep_cell hz0 (Nat.le_refl _) (b := w.heap.size) (o := 1) (by simp [go_sem]; rfl)
    have y010 := keep_cell hz0 (Nat.le_refl _) (b := w.heap.size + 1) (o := 0) (by simp [go_sem]; rfl)
    have y011 := keep_cell hz0 (Nat.le_refl _) (b := w.heap.size + 1) (o := 1) (by simp [go_sem]; rfl)
    have y020 := keep_cell hz0 (Nat.le_refl _) (b := w.heap.size + 1 + 1) (o := 0) (by simp [go_sem]; rfl)
    have y021 := keep_cell hz0 (Nat.le_refl _) (b := w.heap.size + 1 + 1) (o := 1) (by simp [go_sem]; rfl)
    go_wp2_with fail
    refine (szHier_in po k pcap eo m ecap (1048576 - n) (by omega) (by omega) _).mono ?_
    rintro e z1 ⟨rfl, hz1⟩
    replace hB0 := below_next hB0 (Nat.le_refl _) hz1
    have y100 := keep_cell hz1 (Nat.le_refl _) (b := w.heap.size) (o := 0) y000
    have y101 := keep_cell hz1 (Nat.le_refl _) (b := w.heap.size) (o := 1) y001
    have y110 := keep_cell hz1 (Nat.le_refl _) (b := w.heap.size + 1) (o := 0) y010
    have y111 := keep_cell hz1 (Nat.le_refl _) (b := w.heap.size + 1) (o := 1) y011
    have y120 := keep_cell hz1 (Nat.le_refl _) (b := w.heap.size + 1 + 1) (o := 0) y020
    have y121 := keep_cell hz1 (Nat.le_refl _) (b := w.heap.size + 1 + 1) (o := 1) y021
    go_wp2_with fail
    refine (szMetric_out uo u ucap vo v vcap (1048576 - n - k - m) (by omega) (by omega) (by omega) (by omega) (by omega) _).mono ?_
    rintro e z2 ⟨rfl, hz2⟩
    replace hB0 := below_next hB0 (Nat.le_refl _) hz2
    go_wp2
    go_ret
    exact ⟨rfl, hB0⟩
  by_cases hbig3 : 1048576 < (n : Int) + (k : Int) + (m : Int) + (u : Int) + (v : Int) + (s : Int)
  · go_enter Try.func4, Try.ntmps4
    have hB0 : Below w.heap.size w (((w.alloc (.cells #[.int .i64 p, .slice ao n cap] 42)).alloc (.cells #[.slice po k pcap, .slice eo m ecap] 25)).alloc (.cells #[.slice uo u ucap, .slice vo v vcap] 27)) := ((((Below.refl _ w).alloc (Nat.le_refl _) _).alloc (by simp) _).alloc (by simp; omega) _)
    go_wp2_with fail
    refine (szGraph_in p ao n cap (1048576) (by omega) (by omega) _).mono ?_
    rintro e z0 ⟨rfl, hz0⟩
    replace hB0 := below_next hB0 (Nat.le_refl _) hz0
    have y000 := keep_cell hz0 (Nat.le_refl _) (b := w.heap.size) (o := 0) (by simp [go_sem]; rfl)
    have y001 := keep_cell hz0 (Nat.le_refl _) (b := w.heap.size) (o := 1) (by simp [go_sem]; rfl)
    have y010 := keep_cell hz0 (Nat.le_refl _) (b := w.heap.size + 1) (o := 0) (by simp [go_sem]; rfl)
    have y011 := keep_cell hz0 (Nat.le_refl _) (b := w.heap.size + 1) (o := 1) (by simp [go_sem]; rfl)
    have y020 := keep_cell hz0 (Nat.le_refl _) (b := w.heap.size + 1 + 1) (o := 0) (by simp [go_sem]; rfl)
    have y021 := keep_cell hz0 (Nat.le_refl _) (b := w.heap.size + 1 + 1) (o := 1) (by simp [go_sem]; rfl)
    go_wp2_with fail
    refine (szHier_in po k pcap eo m ecap (1048576 - n) (by omega) (by omega) _).mono ?_
    rintro e z1 ⟨rfl, hz1⟩
    replace hB0 := below_next hB0 (Nat.le_refl _) hz1
    have y100 := keep_cell hz1 (Nat.le_refl _) (b := w.heap.size) (o := 0) y000
    have y101 := keep_cell hz1 (Nat.le_refl _) (b := w.heap.size) (o := 1) y001
    have y110 := keep_cell hz1 (Nat.le_refl _) (b := w.heap.size + 1) (o := 0) y010
    have y111 := keep_cell hz1 (Nat.le_refl _) (b := w.heap.size + 1) (o := 1) y011
    have y120 := keep_cell hz1 (Nat.le_refl _) (b := w.heap.size + 1 + 1) (o := 0) y020
    have y121 := keep_cell hz1 (Nat.le_refl _) (b := w.heap.size + 1 + 1) (o := 1) y021
    go_wp2_with fail
    refine (szMetric_in uo u ucap vo v vcap (1048576 - n - k - m) (by omega) (by omega) _).mono ?_
    rintro e z2 ⟨rfl, hz2⟩
    replace hB0 := below_next hB0 (Nat.le_refl _) hz2
    have y200 := keep_cell hz2 (Nat.le_refl _) (b := w.heap.size) (o := 0) y100
    have y201 := keep_cell hz2 (Nat.le_refl _) (b := w.heap.size) (o := 1) y101
    have y210 := keep_cell hz2 (Nat.le_refl _) (b := w.heap.size + 1) (o := 0) y110
    have y211 := keep_cell hz2 (Nat.le_refl _) (b := w.heap.size + 1) (o := 1) y111
    have y220 := keep_cell hz2 (Nat.le_refl _) (b := w.heap.size + 1 + 1) (o := 0) y120
    have y221 := keep_cell hz2 (Nat.le_refl _) (b := w.heap.size + 1 + 1) (o := 1) y121
    go_wp2_with fail
    refine (szArcS_out so s scap (1048576 - n - k - m - u - v) (by omega) (by omega) (by omega) (by omega) _).mono ?_
    rintro e w1 ⟨rfl, hq⟩
    have hq' := hq.symm; subst hq'; clear hq
    go_wp2
    go_ret
    exact ⟨rfl, hB0⟩
  have hn : n ≤ 1048576 := by omega
  have hk : k ≤ 1048576 := by omega
  have hm : m ≤ 1048576 := by omega
  have hu9 : u ≤ 1048576 := by omega
  have hv9 : v ≤ 1048576 := by omega
  have hs : s ≤ 1048576 := by omega
  obtain ⟨p2, n2, H2, N, CU, CD, ok, hrec, hn2, hNm⟩ := isRec_is p n F T G k P m L H u U v V s A B C hn hm
  have hn29 : n2 ≤ 1048576 := by omega
  have hN9 : N ≤ 1048576 := by omega
  have HSP : Hid (∀ ao' cap' po' pcap' eo' ecap' uo' ucap' vo' vcap' so' scap' W, Row W ao' n F T G → IRow W po' k P → ERow W eo' m L H → IRow W uo' u U → IRow W vo' v V → Row W so' s A B C → Calls Try.prog 19 #[.agg #[.int .i64 p, .slice ao' n cap'], .agg #[.slice po' k pcap', .slice eo' m ecap'], .agg #[.slice uo' u ucap', .slice vo' v vcap'], .slice so' s scap'] W fun e w' => RAns W w' e p2 n2 F T H2 N CU CD ok) := fun ao' cap' po' pcap' eo' ecap' uo' ucap' vo' vcap' so' scap' W h1 h2 h3 h4 h5 h6 => specRecustomize_any p ao' n cap' F T G po' k pcap' P eo' m ecap' L H uo' u ucap' U vo' v vcap' V so' s scap' A B C hn hk hm hu9 hv9 hs W h1 h2 h3 h4 h5 h6 p2 n2 H2 N CU CD ok hrec
  have HIM : Hid (∀ ao' cap' po' pcap' eo' ecap' uo' ucap' vo' vcap' so' scap' W, Row W ao' n F T G → IRow W po' k P → ERow W eo' m L H → IRow W uo' u U → IRow W vo' v V → Row W so' s A B C → Calls Try.prog 22 #[.agg #[.int .i64 p, .slice ao' n cap'], .agg #[.slice po' k pcap', .slice eo' m ecap'], .agg #[.slice uo' u ucap', .slice vo' v vcap'], .slice so' s scap'] W fun e w' => RAns W w' e p2 n2 F T H2 N CU CD ok) := fun ao' cap' po' pcap' eo' ecap' uo' ucap' vo' vcap' so' scap' W h1 h2 h3 h4 h5 h6 => implRecustomize_any p ao' n cap' F T G po' k pcap' P eo' m ecap' L H uo' u ucap' U vo' v vcap' V so' s scap' A B C hn hk hm hu9 hv9 hs hwfA W h1 h2 h3 h4 h5 h6 p2 n2 H2 N CU CD ok hrec
  clear hrec
  go_enter Try.func4, Try.ntmps4
  have hB : Below w.heap.size w (((w.alloc (.cells #[.int .i64 p, .slice ao n cap] 42)).alloc (.cells #[.slice po k pcap, .slice eo m ecap] 25)).alloc (.cells #[.slice uo u ucap, .slice vo v vcap] 27)) := ((((Below.refl _ w).alloc (Nat.le_refl _) _).alloc (by simp) _).alloc (by simp; omega) _)
  have y00 : (((w.alloc (.cells #[.int .i64 p, .slice ao n cap] 42)).alloc (.cells #[.slice po k pcap, .slice eo m ecap] 25)).alloc (.cells #[.slice uo u ucap, .slice vo v vcap] 27)).cell? ⟨w.heap.size, 0, none⟩ = some (.int .i64 p) := by simp [go_sem]
  have y01 : (((w.alloc (.cells #[.int .i64 p, .slice ao n cap] 42)).alloc (.cells #[.slice po k pcap, .slice eo m ecap] 25)).alloc (.cells #[.slice uo u ucap, .slice vo v vcap] 27)).cell? ⟨w.heap.size, 1, none⟩ = some (.slice ao n cap) := by simp [go_sem]
  have y10 : (((w.alloc (.cells #[.int .i64 p, .slice ao n cap] 42)).alloc (.cells #[.slice po k pcap, .slice eo m ecap] 25)).alloc (.cells #[.slice uo u ucap, .slice vo v vcap] 27)).cell? ⟨w.heap.size + 1, 0, none⟩ = some (.slice po k pcap) := by simp [go_sem]
  have y11 : (((w.alloc (.cells #[.int .i64 p, .slice ao n cap] 42)).alloc (.cells #[.slice po k pcap, .slice eo m ecap] 25)).alloc (.cells #[.slice uo u ucap, .slice vo v vcap] 27)).cell? ⟨w.heap.size + 1, 1, none⟩ = some (.slice eo m ecap) := by simp [go_sem]
  have y20 : (((w.alloc (.cells #[.int .i64 p, .slice ao n cap] 42)).alloc (.cells #[.slice po k pcap, .slice eo m ecap] 25)).alloc (.cells #[.slice uo u ucap, .slice vo v vcap] 27)).cell? ⟨w.heap.size + 1 + 1, 0, none⟩ = some (.slice uo u ucap) := by simp [go_sem]
  have y21 : (((w.alloc (.cells #[.int .i64 p, .slice ao n cap] 42)).alloc (.cells #[.slice po k pcap, .slice eo m ecap] 25)).alloc (.cells #[.slice uo u ucap, .slice vo v vcap] 27)).cell? ⟨w.heap.size + 1 + 1, 1, none⟩ = some (.slice vo v vcap) := by simp [go_sem]
  have sz0 : (((w.alloc (.cells #[.int .i64 p, .slice ao n cap] 42)).alloc (.cells #[.slice po k pcap, .slice eo m ecap] 25)).alloc (.cells #[.slice uo u ucap, .slice vo v vcap] 27)).heap.size = w.heap.size + 3 := by simp
  go_wp2_with fail
  refine (szGraph_in p ao n cap (1048576) (by omega) (by omega) _).mono ?_
  rintro e w1 ⟨rfl, hbz⟩
  replace y00 := keep_cell hbz (Nat.le_refl _) y00
  replace y01 := keep_cell hbz (Nat.le_refl _) y01
  replace y10 := keep_cell hbz (Nat.le_refl _) y10
  replace y11 := keep_cell hbz (Nat.le_refl _) y11
  replace y20 := keep_cell hbz (Nat.le_refl _) y20
  replace y21 := keep_cell hbz (Nat.le_refl _) y21
  replace hB := below_next hB (Nat.le_refl _) hbz
  have sz1 := hbz.size
  clear hbz
  go_wp2_with fail
  refine (szHier_in po k pcap eo m ecap (1048576 - n) (by omega) (by omega) _).mono ?_
  rintro e w2 ⟨rfl, hbz⟩
  replace y00 := keep_cell hbz (Nat.le_refl _) y00
  replace y01 := keep_cell hbz (Nat.le_refl _) y01
  replace y10 := keep_cell hbz (Nat.le_refl _) y10
  replace y11 := keep_cell hbz (Nat.le_refl _) y11
  replace y20 := keep_cell hbz (Nat.le_refl _) y20
  replace y21 := keep_cell hbz (Nat.le_refl _) y21
  replace hB := below_next hB (Nat.le_refl _) hbz
  have sz2 := hbz.size
  clear hbz
  go_wp2_with fail
  refine (szMetric_in uo u ucap vo v vcap (1048576 - n - k - m) (by omega) (by omega) _).mono ?_
  rintro e w3 ⟨rfl, hbz⟩
  replace y00 := keep_cell hbz (Nat.le_refl _) y00
  replace y01 := keep_cell hbz (Nat.le_refl _) y01
  replace y10 := keep_cell hbz (Nat.le_refl _) y10
  replace y11 := keep_cell hbz (Nat.le_refl _) y11
  replace y20 := keep_cell hbz (Nat.le_refl _) y20
  replace y21 := keep_cell hbz (Nat.le_refl _) y21
  replace hB := below_next hB (Nat.le_refl _) hbz
  have sz3 := hbz.size
  clear hbz
  go_wp2_with fail
  refine (szArcS_in so s scap (1048576 - n - k - m - u - v) (by omega) (by omega) _).mono ?_
  rintro e w4 ⟨rfl, hq⟩
  have hq' := hq.symm; subst hq'; clear hq
  go_wp2_with fail
  have hbd := (Below.refl w3.heap.size w3).drew
  replace y00 := keep_cell hbd (Nat.le_refl _) y00
  replace y01 := keep_cell hbd (Nat.le_refl _) y01
  replace y10 := keep_cell hbd (Nat.le_refl _) y10
  replace y11 := keep_cell hbd (Nat.le_refl _) y11
  replace y20 := keep_cell hbd (Nat.le_refl _) y20
  replace y21 := keep_cell hbd (Nat.le_refl _) y21
  replace hB := below_next hB (Nat.le_refl _) hbd
  have sz3 := hbd.size
  clear hbd
  have HBL : Hid (Below w3.drew.heap.size w3.drew w3.drew) := Below.refl _ _
  refine region_rec (D := ⟨p, ao, n, cap, F, T, G, po, k, pcap, P, eo, m, ecap, L, H, uo, u, ucap, U, vo, v, vcap, V, so, s, scap, A, B, C⟩) (O := ⟨p2, n2, H2, N, CU, CD, ok⟩) (q := 46) (g := 10) (fc := 19) (b0 := w.heap.size) (b1 := w.heap.size + 1) (b2 := w.heap.size + 1 + 1) ⟨by kernel_rfl, (show 46 + 12 < 202 by omega), by omega, by omega, hn, hk, hm, hu9, hv9, hs, hr.below hB (Nat.le_refl _), hp.below hB (Nat.le_refl _), he.below hB (Nat.le_refl _), hu.below hB (Nat.le_refl _), hv.below hB (Nat.le_refl _), ha.below hB (Nat.le_refl _), fun _ _ _ _ _ h => h, fun _ _ => by simp [go_sem], HSP.out, ?_⟩ rfl rfl rfl rfl y00 y01 y10 y11 y20 y21
  intro wLW bGW bXW aoW capW xoW xcW yoW ycW dW bW cW zW KW
  simp only [rfin, Act.put, List.setIfInBounds_toArray, List.set_cons_zero, List.set_cons_succ, Nat.reduceAdd]
  have hbL := KW.bel
  replace y00 := keep_cell hbL (Nat.le_refl _) y00
  replace y01 := keep_cell hbL (Nat.le_refl _) y01
  replace y10 := keep_cell hbL (Nat.le_refl _) y10
  replace y11 := keep_cell hbL (Nat.le_refl _) y11
  replace y20 := keep_cell hbL (Nat.le_refl _) y20
  replace y21 := keep_cell hbL (Nat.le_refl _) y21
  replace hB := below_next hB (Nat.le_refl _) hbL
  clear hbL
  have Y0 : Bx2 wLW w.heap.size (.int .i64 p) (.slice ao n cap) := ⟨y00, y01⟩
  have Y1 : Bx2 wLW (w.heap.size + 1) (.slice po k pcap) (.slice eo m ecap) := ⟨y10, y11⟩
  have Y2 : Bx2 wLW (w.heap.size + 1 + 1) (.slice uo u ucap) (.slice vo v vcap) := ⟨y20, y21⟩
  clear y00 y01 y10 y11 y20 y21
  have sW : RcL wLW aoW xoW yoW n2 N dW bW cW (ar F T H2) CU CD := ⟨KW.ea, KW.ha, KW.ex, KW.hx, KW.ey, KW.hy⟩
  have GW : Bx2 wLW bGW (.int .i64 p2) (.slice aoW n2 capW) := ⟨KW.g0, KW.g1⟩
  have MW : Bx2 wLW bXW (.slice xoW N xcW) (.slice yoW N ycW) := ⟨KW.x0, KW.x1⟩
  have q1W := KW.gb
  have q2W := KW.gc
  have q3W := KW.gd
  have q4W := KW.gx
  have q5W := KW.gy
  clear KW HBL
  simp only [World.size_drew] at q1W q2W q3W q4W q5W
  have fW : (w.heap.size + 3 ≤ bGW ∧ bGW < wLW.heap.size) ∧ (w.heap.size + 3 ≤ bXW ∧ bXW < wLW.heap.size) ∧ (w.heap.size + 3 ≤ dW ∧ dW < wLW.heap.size) ∧ (w.heap.size + 3 ≤ bW ∧ bW < wLW.heap.size) ∧ (w.heap.size + 3 ≤ cW ∧ cW < wLW.heap.size) := by omega
  clear q1W q2W q3W q4W q5W sz0 sz1 sz2 sz3
  obtain ⟨zL, hzL⟩ : ∃ zL, wLW.heap.size = zL := ⟨_, rfl⟩
  rw [hzL] at fW
  have HZ : zL ≤ wLW.heap.size := Nat.le_of_eq hzL.symm
  clear hzL
  have Y0c0 := Y0.c0
  have Y0c1 := Y0.c1
  go_wp2_with fail
  clear Y0c0 Y0c1
  refine (toGraph_any p ao n cap F T G hn _ (hr.below hB (Nat.le_refl _))).mono ?_
  rintro e z0w ⟨b0, rfl, hl0, o0, hb0⟩
  replace o0 := Has.of_own o0
  replace Y0 := Y0.next hb0
  replace Y1 := Y1.next hb0
  replace Y2 := Y2.next hb0
  replace sW := sW.next hb0
  replace GW := GW.next hb0
  replace MW := MW.next hb0
  replace hB := below_next hB (Nat.le_refl _) hb0
  have f0 : zL ≤ b0 ∧ b0 < z0w.heap.size := by have := o0.lt; omega
  clear hb0 hl0 HZ
  have hal := (Below.refl z0w.heap.size z0w).alloc (Nat.le_refl _) (.cells #[.int .i64 p, .slice (some ⟨b0, 0, none⟩) n n] 47)
  replace Y0 := Y0.next hal
  replace Y1 := Y1.next hal
  replace Y2 := Y2.next hal
  replace sW := sW.next hal
  replace GW := GW.next hal
  replace MW := MW.next hal
  replace o0 := o0.below hal o0.lt
  replace hB := below_next hB (Nat.le_refl _) hal
  clear hal
  have X0 := bx2_new z0w (.int .i64 p) (.slice (some ⟨b0, 0, none⟩) n n) 47
  have hz0 : (z0w.alloc (.cells #[.int .i64 p, .slice (some ⟨b0, 0, none⟩) n n] 47)).heap.size = z0w.heap.size + 1 := World.size_alloc _ _
  have Y1c0 := Y1.c0
  have Y1c1 := Y1.c1
  go_wp2_with fail
  clear Y1c0 Y1c1
  generalize (z0w.alloc (.cells #[.int .i64 p, .slice (some ⟨b0, 0, none⟩) n n] 47)) = V0 at Y0 Y1 Y2 sW GW MW o0 X0 hB hz0 ⊢
  generalize z0w.heap.size = x0B at X0 hz0 f0 ⊢
  refine (toHier_any po k pcap P eo m ecap L H hk hm _ (hp.below hB (Nat.le_refl _)) (he.below hB (Nat.le_refl _))).mono ?_
  rintro e z1w ⟨b1, c1, rfl, hl1, hm1, o1, o1c, hb1⟩
  replace Y0 := Y0.next hb1
  replace Y1 := Y1.next hb1
  replace Y2 := Y2.next hb1
  replace sW := sW.next hb1
  replace GW := GW.next hb1
  replace MW := MW.next hb1
  replace o0 := o0.below hb1 o0.lt
  replace X0 := X0.next hb1
  replace hB := below_next hB (Nat.le_refl _) hb1
  have f1 : (x0B < b1 ∧ b1 < c1) ∧ c1 < z1w.heap.size := by have := o1c.lt; omega
  clear hb1 hl1 hm1 hz0
  have hal := (Below.refl z1w.heap.size z1w).alloc (Nat.le_refl _) (.cells #[.slice (some ⟨b1, 0, none⟩) k k, .slice (some ⟨c1, 0, none⟩) m m] 33)
  replace Y0 := Y0.next hal
  replace Y1 := Y1.next hal
  replace Y2 := Y2.next hal
  replace sW := sW.next hal
  replace GW := GW.next hal
  replace MW := MW.next hal
  replace o0 := o0.below hal o0.lt
  replace X0 := X0.next hal
  replace o1 := o1.below hal o1.lt
  replace o1c := o1c.below hal o1c.lt
  replace hB := below_next hB (Nat.le_refl _) hal
  clear hal
  have X1 := bx2_new z1w (.slice (some ⟨b1, 0, none⟩) k k) (.slice (some ⟨c1, 0, none⟩) m m) 33
  have hz1 : (z1w.alloc (.cells #[.slice (some ⟨b1, 0, none⟩) k k, .slice (some ⟨c1, 0, none⟩) m m] 33)).heap.size = z1w.heap.size + 1 := World.size_alloc _ _
  have Y2c0 := Y2.c0
  have Y2c1 := Y2.c1
  go_wp2_with fail
  clear Y2c0 Y2c1
  generalize (z1w.alloc (.cells #[.slice (some ⟨b1, 0, none⟩) k k, .slice (some ⟨c1, 0, none⟩) m m] 33)) = V1 at Y0 Y1 Y2 sW GW MW o0 X0 o1 o1c X1 hB hz1 ⊢
  generalize z1w.heap.size = x1B at X1 hz1 f1 ⊢
  refine (toMetric_any uo u ucap U vo v vcap V hu9 hv9 _ (hu.below hB (Nat.le_refl _)) (hv.below hB (Nat.le_refl _))).mono ?_
  rintro e z2w ⟨b2, c2, rfl, hl2, hm2, o2, o2c, hb2⟩
  replace Y0 := Y0.next hb2
  replace Y1 := Y1.next hb2
  replace Y2 := Y2.next hb2
  replace sW := sW.next hb2
  replace GW := GW.next hb2
  replace MW := MW.next hb2
  replace o0 := o0.below hb2 o0.lt
  replace X0 := X0.next hb2
  replace o1 := o1.below hb2 o1.lt
  replace o1c := o1c.below hb2 o1c.lt
  replace X1 := X1.next hb2
  replace hB := below_next hB (Nat.le_refl _) hb2
  have f2 : (x1B < b2 ∧ b2 < c2) ∧ c2 < z2w.heap.size := by have := o2c.lt; omega
  clear hb2 hl2 hm2 hz1
  have hal := (Below.refl z2w.heap.size z2w).alloc (Nat.le_refl _) (.cells #[.slice (some ⟨b2, 0, none⟩) u u, .slice (some ⟨c2, 0, none⟩) v v] 35)
  replace Y0 := Y0.next hal
  replace Y1 := Y1.next hal
  replace Y2 := Y2.next hal
  replace sW := sW.next hal
  replace GW := GW.next hal
  replace MW := MW.next hal
  replace o0 := o0.below hal o0.lt
  replace X0 := X0.next hal
  replace o1 := o1.below hal o1.lt
  replace o1c := o1c.below hal o1c.lt
  replace X1 := X1.next hal
  replace o2 := o2.below hal o2.lt
  replace o2c := o2c.below hal o2c.lt
  replace hB := below_next hB (Nat.le_refl _) hal
  clear hal
  have X2 := bx2_new z2w (.slice (some ⟨b2, 0, none⟩) u u) (.slice (some ⟨c2, 0, none⟩) v v) 35
  have hz2 : (z2w.alloc (.cells #[.slice (some ⟨b2, 0, none⟩) u u, .slice (some ⟨c2, 0, none⟩) v v] 35)).heap.size = z2w.heap.size + 1 := World.size_alloc _ _
  go_wp2_with fail
  generalize (z2w.alloc (.cells #[.slice (some ⟨b2, 0, none⟩) u u, .slice (some ⟨c2, 0, none⟩) v v] 35)) = V2 at Y0 Y1 Y2 sW GW MW o0 X0 o1 o1c X1 o2 o2c X2 hB hz2 ⊢
  generalize z2w.heap.size = x2B at X2 hz2 f2 ⊢
  refine (toArcS_any so s scap A B C hs _ (ha.below hB (Nat.le_refl _))).mono ?_
  rintro e z3w ⟨rfl, o3, hb3⟩
  replace o3 := Has.of_own o3
  obtain ⟨b3, eb3⟩ : ∃ b, b = V2.heap.size := ⟨_, rfl⟩
  rw [← eb3] at o3 ⊢
  have f3 : x2B < b3 ∧ b3 < z3w.heap.size := by have := o3.lt; omega
  clear eb3 hz2
  replace Y0 := Y0.next hb3
  replace Y1 := Y1.next hb3
  replace Y2 := Y2.next hb3
  replace sW := sW.next hb3
  replace GW := GW.next hb3
  replace MW := MW.next hb3
  replace o0 := o0.below hb3 o0.lt
  replace X0 := X0.next hb3
  replace o1 := o1.below hb3 o1.lt
  replace o1c := o1c.below hb3 o1c.lt
  replace X1 := X1.next hb3
  replace o2 := o2.below hb3 o2.lt
  replace o2c := o2c.below hb3 o2c.lt
  replace X2 := X2.next hb3
  replace hB := below_next hB (Nat.le_refl _) hb3
  clear hb3
  obtain ⟨z4, hz4⟩ : ∃ z4, z3w.heap.size = z4 := ⟨_, rfl⟩
  rw [hz4] at f3
  have HZ4 : z4 ≤ z3w.heap.size := Nat.le_of_eq hz4.symm
  clear hz4
  have X0c0 := X0.c0
  have X0c1 := X0.c1
  have X1c0 := X1.c0
  have X1c1 := X1.c1
  have X2c0 := X2.c0
  have X2c1 := X2.c1
  go_wp2_with fail
  clear X0c0 X0c1 X1c0 X1c1 X2c0 X2c1
  refine (HIM.out _ _ _ _ _ _ _ _ _ _ _ _ _ o0.row o1.row o1c.row o2.row o2c.row o3.row).mono ?_
  rintro e z5w ⟨aoX, capX, xoX, xcX, yoX, ycX, rfl, hWr, hWx, hWs, hbF⟩
  replace Y0 := Y0.next hbF
  replace Y1 := Y1.next hbF
  replace Y2 := Y2.next hbF
  replace sW := sW.next hbF
  replace GW := GW.next hbF
  replace MW := MW.next hbF
  replace o0 := o0.below hbF o0.lt
  replace X0 := X0.next hbF
  replace o1 := o1.below hbF o1.lt
  replace o1c := o1c.below hbF o1c.lt
  replace X1 := X1.next hbF
  replace o2 := o2.below hbF o2.lt
  replace o2c := o2c.below hbF o2c.lt
  replace X2 := X2.next hbF
  replace o3 := o3.below hbF o3.lt
  replace hB := below_next hB (Nat.le_refl _) hbF
  obtain ⟨dX, bX, cX, eaX, haX, eX1, iX, eX2, jX, gdX, lX, kX, nX, ndX, ndcX⟩ := pick3 hWr hWx hWs
  have sX : RcL z5w aoX xoX yoX n2 N dX bX cX (ar F T H2) CU CD := ⟨eaX, haX, eX1, iX, eX2, jX⟩
  have fX : (z4 ≤ dX ∧ dX < z5w.heap.size) ∧ (z4 ≤ bX ∧ bX < z5w.heap.size) ∧ (z4 ≤ cX ∧ cX < z5w.heap.size) ∧ bX ≠ cX ∧ dX ≠ bX ∧ dX ≠ cX := by omega
  clear hWr hWx hWs hbF eaX haX eX1 iX eX2 jX gdX lX kX nX ndX ndcX HZ4
  have hal := (Below.refl z5w.heap.size z5w).alloc (Nat.le_refl _) (.cells #[.int .i64 p2, .slice aoX n2 capX] 47)
  replace Y0 := Y0.next hal
  replace Y1 := Y1.next hal
  replace Y2 := Y2.next hal
  replace sW := sW.next hal
  replace GW := GW.next hal
  replace MW := MW.next hal
  replace o0 := o0.below hal o0.lt
  replace X0 := X0.next hal
  replace o1 := o1.below hal o1.lt
  replace o1c := o1c.below hal o1c.lt
  replace X1 := X1.next hal
  replace o2 := o2.below hal o2.lt
  replace o2c := o2c.below hal o2c.lt
  replace X2 := X2.next hal
  replace o3 := o3.below hal o3.lt
  replace sX := sX.next hal
  replace hB := below_next hB (Nat.le_refl _) hal
  clear hal
  have GX := bx2_new z5w (.int .i64 p2) (.slice aoX n2 capX) 47
  have hal := (Below.refl (z5w.alloc (.cells #[.int .i64 p2, .slice aoX n2 capX] 47)).heap.size (z5w.alloc (.cells #[.int .i64 p2, .slice aoX n2 capX] 47))).alloc (Nat.le_refl _) (.cells #[.slice xoX N xcX, .slice yoX N ycX] 35)
  replace Y0 := Y0.next hal
  replace Y1 := Y1.next hal
  replace Y2 := Y2.next hal
  replace sW := sW.next hal
  replace GW := GW.next hal
  replace MW := MW.next hal
  replace o0 := o0.below hal o0.lt
  replace X0 := X0.next hal
  replace o1 := o1.below hal o1.lt
  replace o1c := o1c.below hal o1c.lt
  replace X1 := X1.next hal
  replace o2 := o2.below hal o2.lt
  replace o2c := o2c.below hal o2c.lt
  replace X2 := X2.next hal
  replace o3 := o3.below hal o3.lt
  replace sX := sX.next hal
  replace GX := GX.next hal
  replace hB := below_next hB (Nat.le_refl _) hal
  clear hal
  have MX := bx2_new (z5w.alloc (.cells #[.int .i64 p2, .slice aoX n2 capX] 47)) (.slice xoX N xcX) (.slice yoX N ycX) 35
  simp only [World.size_alloc] at MX
  have GXc0 := GX.c0
  have GXc1 := GX.c1
  have GWc0 := GW.c0
  have GWc1 := GW.c1
  go_wp2_with fail
  clear GXc0 GXc1 GWc0 GWc1
  generalize ((z5w.alloc (.cells #[.int .i64 p2, .slice aoX n2 capX] 47)).alloc (.cells #[.slice xoX N xcX, .slice yoX N ycX] 35)) = V5 at Y0 Y1 Y2 sW GW MW o0 X0 o1 o1c X1 o2 o2c X2 o3 sX GX MX hB ⊢
  generalize z5w.heap.size = xG at GX MX fX ⊢
  refine (eqGraph_same p2 _ _ n2 _ _ F T H2 hn29 _ sX.ra sW.ra).mono ?_
  rintro e e1a ⟨rfl, hbq⟩
  replace Y0 := Y0.next hbq
  replace Y1 := Y1.next hbq
  replace Y2 := Y2.next hbq
  replace sW := sW.next hbq
  replace GW := GW.next hbq
  replace MW := MW.next hbq
  replace o0 := o0.below hbq o0.lt
  replace X0 := X0.next hbq
  replace o1 := o1.below hbq o1.lt
  replace o1c := o1c.below hbq o1c.lt
  replace X1 := X1.next hbq
  replace o2 := o2.below hbq o2.lt
  replace o2c := o2c.below hbq o2c.lt
  replace X2 := X2.next hbq
  replace o3 := o3.below hbq o3.lt
  replace sX := sX.next hbq
  replace GX := GX.next hbq
  replace MX := MX.next hbq
  replace hB := below_next hB (Nat.le_refl _) hbq
  clear hbq
  have MXc0 := MX.c0
  have MXc1 := MX.c1
  have MWc0 := MW.c0
  have MWc1 := MW.c1
  go_wp2_with fail
  clear MXc0 MXc1 MWc0 MWc1
  refine (eqMetric_same _ _ N _ _ CU _ _ N _ _ CD hN9 hN9 _ sX.rx sW.rx sX.ry sW.ry).mono ?_
  rintro e e1b ⟨rfl, hbq⟩
  replace Y0 := Y0.next hbq
  replace Y1 := Y1.next hbq
  replace Y2 := Y2.next hbq
  replace sW := sW.next hbq
  replace GW := GW.next hbq
  replace MW := MW.next hbq
  replace o0 := o0.below hbq o0.lt
  replace X0 := X0.next hbq
  replace o1 := o1.below hbq o1.lt
  replace o1c := o1c.below hbq o1c.lt
  replace X1 := X1.next hbq
  replace o2 := o2.below hbq o2.lt
  replace o2c := o2c.below hbq o2c.lt
  replace X2 := X2.next hbq
  replace o3 := o3.below hbq o3.lt
  replace sX := sX.next hbq
  replace GX := GX.next hbq
  replace MX := MX.next hbq
  replace hB := below_next hB (Nat.le_refl _) hbq
  clear hbq
  have HF := Kont.mk (And.intro fW (And.intro f0 (And.intro f1 (And.intro f2 (And.intro f3 fX)))))
  clear fW f0 f1 f2 f3 fX
  have Y0c0 := Y0.c0
  have Y0c1 := Y0.c1
  have X0c0 := X0.c0
  have X0c1 := X0.c1
  go_wp2_with fail
  clear Y0c0 Y0c1 X0c0 X0c1
  have hbd := (Below.refl e1b.heap.size e1b).drew
  replace Y0 := Y0.next hbd
  replace Y1 := Y1.next hbd
  replace Y2 := Y2.next hbd
  replace sW := sW.next hbd
  replace GW := GW.next hbd
  replace MW := MW.next hbd
  replace o0 := o0.below hbd o0.lt
  replace X0 := X0.next hbd
  replace o1 := o1.below hbd o1.lt
  replace o1c := o1c.below hbd o1c.lt
  replace X1 := X1.next hbd
  replace o2 := o2.below hbd o2.lt
  replace o2c := o2c.below hbd o2c.lt
  replace X2 := X2.next hbd
  replace o3 := o3.below hbd o3.lt
  replace sX := sX.next hbd
  replace GX := GX.next hbd
  replace MX := MX.next hbd
  replace hB := below_next hB (Nat.le_refl _) hbd
  clear hbd
  have Y0c0 := Y0.c0
  have Y0c1 := Y0.c1
  have X0c0 := X0.c0
  have X0c1 := X0.c1
  go_region_held3 (fun w' => w'.cell? ⟨x0B, 0, none⟩ = some (.int .i64 p) ∧ w'.cell? ⟨x0B, 1, none⟩ = some (.slice (some ⟨b0, 0, none⟩) n n) ∧ w'.cell? ⟨w.heap.size, 0, none⟩ = some (.int .i64 p) ∧ w'.cell? ⟨w.heap.size, 1, none⟩ = some (.slice ao n cap))
    (first | (go_split_ands; refine ⟨?_, ?_, ?_, ?_⟩ <;> exact keep_cell hbq (Nat.le_refl _) (by assumption)) | (go_split_ands; refine ⟨?_, ?_, ?_, ?_⟩ <;> exact keep_cell hby (Nat.le_refl _) (by assumption)) | go_keep)
    (first | (go_at_call 20; refine (toGraph_any p ao n cap F T G hn _ (hr.below hB (Nat.le_refl _))).mono ?_; rintro e r0a ⟨yb, rfl, hly, oy, hby⟩) | (go_at_call 23; refine (eqGraph_same p _ _ n n n F T G hn _ (o0.below hby o0.lt).row oy.row).mono ?_; rintro e r0b ⟨rfl, hbq⟩))
  go_split_ands
  replace Y0 := Y0.next hby
  replace Y1 := Y1.next hby
  replace Y2 := Y2.next hby
  replace sW := sW.next hby
  replace GW := GW.next hby
  replace MW := MW.next hby
  replace o0 := o0.below hby o0.lt
  replace X0 := X0.next hby
  replace o1 := o1.below hby o1.lt
  replace o1c := o1c.below hby o1c.lt
  replace X1 := X1.next hby
  replace o2 := o2.below hby o2.lt
  replace o2c := o2c.below hby o2c.lt
  replace X2 := X2.next hby
  replace o3 := o3.below hby o3.lt
  replace sX := sX.next hby
  replace GX := GX.next hby
  replace MX := MX.next hby
  replace hB := below_next hB (Nat.le_refl _) hby
  replace Y0 := Y0.next hbq
  replace Y1 := Y1.next hbq
  replace Y2 := Y2.next hbq
  replace sW := sW.next hbq
  replace GW := GW.next hbq
  replace MW := MW.next hbq
  replace o0 := o0.below hbq o0.lt
  replace X0 := X0.next hbq
  replace o1 := o1.below hbq o1.lt
  replace o1c := o1c.below hbq o1c.lt
  replace X1 := X1.next hbq
  replace o2 := o2.below hbq o2.lt
  replace o2c := o2c.below hbq o2c.lt
  replace X2 := X2.next hbq
  replace o3 := o3.below hbq o3.lt
  replace sX := sX.next hbq
  replace GX := GX.next hbq
  replace MX := MX.next hbq
  replace hB := below_next hB (Nat.le_refl _) hbq
  clear hby hbq hly oy Y0c0 Y0c1 X0c0 X0c1
  have Y1c0 := Y1.c0
  have Y1c1 := Y1.c1
  have X1c0 := X1.c0
  have X1c1 := X1.c1
  go_wp2_with fail
  clear Y1c0 Y1c1 X1c0 X1c1
  have hbd := (Below.refl r0b.heap.size r0b).drew
  replace Y0 := Y0.next hbd
  replace Y1 := Y1.next hbd
  replace Y2 := Y2.next hbd
  replace sW := sW.next hbd
  replace GW := GW.next hbd
  replace MW := MW.next hbd
  replace o0 := o0.below hbd o0.lt
  replace X0 := X0.next hbd
  replace o1 := o1.below hbd o1.lt
  replace o1c := o1c.below hbd o1c.lt
  replace X1 := X1.next hbd
  replace o2 := o2.below hbd o2.lt
  replace o2c := o2c.below hbd o2c.lt
  replace X2 := X2.next hbd
  replace o3 := o3.below hbd o3.lt
  replace sX := sX.next hbd
  replace GX := GX.next hbd
  replace MX := MX.next hbd
  replace hB := below_next hB (Nat.le_refl _) hbd
  clear hbd
  have Y1c0 := Y1.c0
  have Y1c1 := Y1.c1
  have X1c0 := X1.c0
  have X1c1 := X1.c1
  go_region_held3 (fun w' => w'.cell? ⟨x1B, 0, none⟩ = some (.slice (some ⟨b1, 0, none⟩) k k) ∧ w'.cell? ⟨x1B, 1, none⟩ = some (.slice (some ⟨c1, 0, none⟩) m m) ∧ w'.cell? ⟨w.heap.size + 1, 0, none⟩ = some (.slice po k pcap) ∧ w'.cell? ⟨w.heap.size + 1, 1, none⟩ = some (.slice eo m ecap))
    (first | (go_split_ands; refine ⟨?_, ?_, ?_, ?_⟩ <;> exact keep_cell hbq (Nat.le_refl _) (by assumption)) | (go_split_ands; refine ⟨?_, ?_, ?_, ?_⟩ <;> exact keep_cell hby (Nat.le_refl _) (by assumption)) | go_keep)
    (first | (go_at_call 12; refine (toHier_any po k pcap P eo m ecap L H hk hm _ (hp.below hB (Nat.le_refl _)) (he.below hB (Nat.le_refl _))).mono ?_; rintro e r1a ⟨yb, yc, rfl, hly, hmy, oy, oyc, hby⟩) | (go_at_call 15; refine (eqHier_same _ _ k k k P _ _ m m m L H hk hm _ (o1.below hby o1.lt).row oy.row (o1c.below hby o1c.lt).row oyc.row).mono ?_; rintro e r1b ⟨rfl, hbq⟩))
  go_split_ands
  replace Y0 := Y0.next hby
  replace Y1 := Y1.next hby
  replace Y2 := Y2.next hby
  replace sW := sW.next hby
  replace GW := GW.next hby
  replace MW := MW.next hby
  replace o0 := o0.below hby o0.lt
  replace X0 := X0.next hby
  replace o1 := o1.below hby o1.lt
  replace o1c := o1c.below hby o1c.lt
  replace X1 := X1.next hby
  replace o2 := o2.below hby o2.lt
  replace o2c := o2c.below hby o2c.lt
  replace X2 := X2.next hby
  replace o3 := o3.below hby o3.lt
  replace sX := sX.next hby
  replace GX := GX.next hby
  replace MX := MX.next hby
  replace hB := below_next hB (Nat.le_refl _) hby
  replace Y0 := Y0.next hbq
  replace Y1 := Y1.next hbq
  replace Y2 := Y2.next hbq
  replace sW := sW.next hbq
  replace GW := GW.next hbq
  replace MW := MW.next hbq
  replace o0 := o0.below hbq o0.lt
  replace X0 := X0.next hbq
  replace o1 := o1.below hbq o1.lt
  replace o1c := o1c.below hbq o1c.lt
  replace X1 := X1.next hbq
  replace o2 := o2.below hbq o2.lt
  replace o2c := o2c.below hbq o2c.lt
  replace X2 := X2.next hbq
  replace o3 := o3.below hbq o3.lt
  replace sX := sX.next hbq
  replace GX := GX.next hbq
  replace MX := MX.next hbq
  replace hB := below_next hB (Nat.le_refl _) hbq
  clear hby hbq hly oy hmy oyc Y1c0 Y1c1 X1c0 X1c1
  have Y2c0 := Y2.c0
  have Y2c1 := Y2.c1
  have X2c0 := X2.c0
  have X2c1 := X2.c1
  go_wp2_with fail
  clear Y2c0 Y2c1 X2c0 X2c1
  have hbd := (Below.refl r1b.heap.size r1b).drew
  replace Y0 := Y0.next hbd
  replace Y1 := Y1.next hbd
  replace Y2 := Y2.next hbd
  replace sW := sW.next hbd
  replace GW := GW.next hbd
  replace MW := MW.next hbd
  replace o0 := o0.below hbd o0.lt
  replace X0 := X0.next hbd
  replace o1 := o1.below hbd o1.lt
  replace o1c := o1c.below hbd o1c.lt
  replace X1 := X1.next hbd
  replace o2 := o2.below hbd o2.lt
  replace o2c := o2c.below hbd o2c.lt
  replace X2 := X2.next hbd
  replace o3 := o3.below hbd o3.lt
  replace sX := sX.next hbd
  replace GX := GX.next hbd
  replace MX := MX.next hbd
  replace hB := below_next hB (Nat.le_refl _) hbd
  clear hbd
  have Y2c0 := Y2.c0
  have Y2c1 := Y2.c1
  have X2c0 := X2.c0
  have X2c1 := X2.c1
  go_region_held3 (fun w' => w'.cell? ⟨x2B, 0, none⟩ = some (.slice (some ⟨b2, 0, none⟩) u u) ∧ w'.cell? ⟨x2B, 1, none⟩ = some (.slice (some ⟨c2, 0, none⟩) v v) ∧ w'.cell? ⟨w.heap.size + 1 + 1, 0, none⟩ = some (.slice uo u ucap) ∧ w'.cell? ⟨w.heap.size + 1 + 1, 1, none⟩ = some (.slice vo v vcap))
    (first | (go_split_ands; refine ⟨?_, ?_, ?_, ?_⟩ <;> exact keep_cell hbq (Nat.le_refl _) (by assumption)) | (go_split_ands; refine ⟨?_, ?_, ?_, ?_⟩ <;> exact keep_cell hby (Nat.le_refl _) (by assumption)) | go_keep)
    (first | (go_at_call 13; refine (toMetric_any uo u ucap U vo v vcap V hu9 hv9 _ (hu.below hB (Nat.le_refl _)) (hv.below hB (Nat.le_refl _))).mono ?_; rintro e r2a ⟨yb, yc, rfl, hly, hmy, oy, oyc, hby⟩) | (go_at_call 16; refine (eqMetric_same _ _ u u u U _ _ v v v V hu9 hv9 _ (o2.below hby o2.lt).row oy.row (o2c.below hby o2c.lt).row oyc.row).mono ?_; rintro e r2b ⟨rfl, hbq⟩))
  go_split_ands
  replace Y0 := Y0.next hby
  replace Y1 := Y1.next hby
  replace Y2 := Y2.next hby
  replace sW := sW.next hby
  replace GW := GW.next hby
  replace MW := MW.next hby
  replace o0 := o0.below hby o0.lt
  replace X0 := X0.next hby
  replace o1 := o1.below hby o1.lt
  replace o1c := o1c.below hby o1c.lt
  replace X1 := X1.next hby
  replace o2 := o2.below hby o2.lt
  replace o2c := o2c.below hby o2c.lt
  replace X2 := X2.next hby
  replace o3 := o3.below hby o3.lt
  replace sX := sX.next hby
  replace GX := GX.next hby
  replace MX := MX.next hby
  replace hB := below_next hB (Nat.le_refl _) hby
  replace Y0 := Y0.next hbq
  replace Y1 := Y1.next hbq
  replace Y2 := Y2.next hbq
  replace sW := sW.next hbq
  replace GW := GW.next hbq
  replace MW := MW.next hbq
  replace o0 := o0.below hbq o0.lt
  replace X0 := X0.next hbq
  replace o1 := o1.below hbq o1.lt
  replace o1c := o1c.below hbq o1c.lt
  replace X1 := X1.next hbq
  replace o2 := o2.below hbq o2.lt
  replace o2c := o2c.below hbq o2c.lt
  replace X2 := X2.next hbq
  replace o3 := o3.below hbq o3.lt
  replace sX := sX.next hbq
  replace GX := GX.next hbq
  replace MX := MX.next hbq
  replace hB := below_next hB (Nat.le_refl _) hbq
  clear hby hbq hly oy hmy oyc Y2c0 Y2c1 X2c0 X2c1
  go_wp2_with fail
  refine (toArcS_any so s scap A B C hs _ (ha.below hB (Nat.le_refl _))).mono ?_
  rintro e r3a ⟨rfl, oy, hby⟩
  replace Y0 := Y0.next hby
  replace Y1 := Y1.next hby
  replace Y2 := Y2.next hby
  replace sW := sW.next hby
  replace GW := GW.next hby
  replace MW := MW.next hby
  replace o0 := o0.below hby o0.lt
  replace X0 := X0.next hby
  replace o1 := o1.below hby o1.lt
  replace o1c := o1c.below hby o1c.lt
  replace X1 := X1.next hby
  replace o2 := o2.below hby o2.lt
  replace o2c := o2c.below hby o2c.lt
  replace X2 := X2.next hby
  replace o3 := o3.below hby o3.lt
  replace sX := sX.next hby
  replace GX := GX.next hby
  replace MX := MX.next hby
  replace hB := below_next hB (Nat.le_refl _) hby
  go_wp2_with fail
  refine (eqArcS_same _ _ s s s A B C hs _ o3.row oy.row).mono ?_
  rintro e r3b ⟨rfl, hbq⟩
  replace Y0 := Y0.next hbq
  replace Y1 := Y1.next hbq
  replace Y2 := Y2.next hbq
  replace sW := sW.next hbq
  replace GW := GW.next hbq
  replace MW := MW.next hbq
  replace o0 := o0.below hbq o0.lt
  replace X0 := X0.next hbq
  replace o1 := o1.below hbq o1.lt
  replace o1c := o1c.below hbq o1c.lt
  replace X1 := X1.next hbq
  replace o2 := o2.below hbq o2.lt
  replace o2c := o2c.below hbq o2c.lt
  replace X2 := X2.next hbq
  replace o3 := o3.below hbq o3.lt
  replace sX := sX.next hbq
  replace GX := GX.next hbq
  replace MX := MX.next hbq
  replace hB := below_next hB (Nat.le_refl _) hbq
  clear hby hbq oy
  obtain ⟨fW, f0, f1, f2, f3, fX⟩ := HF.out
  clear HF
  have X0c0 := X0.c0
  have X0c1 := X0.c1
  go_wp2_with fail
  clear X0c0 X0c1
  refine (markGraph_any p b0 n n (ar F T G) 1 (by omega) (by omega) hn _ (fun _ => o0) _ (fun _ => rfl)).mono ?_
  rintro e k0w ⟨rfl, _, hg⟩
  have hT := Turns.of_grown hg
  replace Y0 := Y0.turn hT (by simp; omega)
  replace Y1 := Y1.turn hT (by simp; omega)
  replace Y2 := Y2.turn hT (by simp; omega)
  replace sW := sW.turn hT (by simp; omega) (by simp; omega) (by simp; omega)
  replace GW := GW.turn hT (by simp; omega)
  replace MW := MW.turn hT (by simp; omega)
  replace o1 := hT.ihas (by simp; omega) o1
  replace o1c := hT.ehas (by simp; omega) o1c
  replace X1 := X1.turn hT (by simp; omega)
  replace o2 := hT.ihas (by simp; omega) o2
  replace o2c := hT.ihas (by simp; omega) o2c
  replace X2 := X2.turn hT (by simp; omega)
  replace o3 := hT.has (by simp; omega) o3
  replace sX := sX.turn hT (by simp; omega) (by simp; omega) (by simp; omega)
  replace GX := GX.turn hT (by simp; omega)
  replace MX := MX.turn hT (by simp; omega)
  replace hB := hB.trans (hT.below hB.size (by simp; omega))
  clear hT hg o0 X0
  have X1c0 := X1.c0
  have X1c1 := X1.c1
  go_wp2_with fail
  clear X1c0 X1c1
  refine (markHier_any b1 c1 k m k m P (er L H) (1 + 3 * (n : Int)) (by omega) (by omega) hk hm _ (fun _ => o1) (fun _ => o1c) (by omega) _ (fun _ => rfl) _ (fun _ => rfl) o1.lt o1c.lt).mono ?_
  rintro e k1w ⟨rfl, _, _, hg⟩
  have hT := hg
  replace Y0 := Y0.turn hT (by simp; omega)
  replace Y1 := Y1.turn hT (by simp; omega)
  replace Y2 := Y2.turn hT (by simp; omega)
  replace sW := sW.turn hT (by simp; omega) (by simp; omega) (by simp; omega)
  replace GW := GW.turn hT (by simp; omega)
  replace MW := MW.turn hT (by simp; omega)
  replace o2 := hT.ihas (by simp; omega) o2
  replace o2c := hT.ihas (by simp; omega) o2c
  replace X2 := X2.turn hT (by simp; omega)
  replace o3 := hT.has (by simp; omega) o3
  replace sX := sX.turn hT (by simp; omega) (by simp; omega) (by simp; omega)
  replace GX := GX.turn hT (by simp; omega)
  replace MX := MX.turn hT (by simp; omega)
  replace hB := hB.trans (hT.below hB.size (by simp; omega))
  clear hT hg o1 o1c X1
  have X2c0 := X2.c0
  have X2c1 := X2.c1
  go_wp2_with fail
  clear X2c0 X2c1
  refine (markMetric_any b2 c2 u v u v U V (1 + 3 * (n : Int) + (k : Int) + 2 * (m : Int)) (by omega) (by omega) hu9 hv9 _ (fun _ => o2) (fun _ => o2c) (by omega) _ (fun _ => rfl) _ (fun _ => rfl) o2.lt o2c.lt).mono ?_
  rintro e k2w ⟨rfl, _, _, hg⟩
  have hT := hg
  replace Y0 := Y0.turn hT (by simp; omega)
  replace Y1 := Y1.turn hT (by simp; omega)
  replace Y2 := Y2.turn hT (by simp; omega)
  replace sW := sW.turn hT (by simp; omega) (by simp; omega) (by simp; omega)
  replace GW := GW.turn hT (by simp; omega)
  replace MW := MW.turn hT (by simp; omega)
  replace o3 := hT.has (by simp; omega) o3
  replace sX := sX.turn hT (by simp; omega) (by simp; omega) (by simp; omega)
  replace GX := GX.turn hT (by simp; omega)
  replace MX := MX.turn hT (by simp; omega)
  replace hB := hB.trans (hT.below hB.size (by simp; omega))
  clear hT hg o2 o2c X2
  go_wp2_with fail
  refine (markArcS_any b3 s s (ar A B C) (1 + 3 * (n : Int) + (k : Int) + 2 * (m : Int) + (u : Int) + (v : Int)) (by omega) (by omega) hs _ (fun _ => o3) _ (fun _ => rfl)).mono ?_
  rintro e k3w ⟨rfl, _, hg⟩
  have hT := Turns.of_grown hg
  replace Y0 := Y0.turn hT (by simp; omega)
  replace Y1 := Y1.turn hT (by simp; omega)
  replace Y2 := Y2.turn hT (by simp; omega)
  replace sW := sW.turn hT (by simp; omega) (by simp; omega) (by simp; omega)
  replace GW := GW.turn hT (by simp; omega)
  replace MW := MW.turn hT (by simp; omega)
  replace sX := sX.turn hT (by simp; omega) (by simp; omega) (by simp; omega)
  replace GX := GX.turn hT (by simp; omega)
  replace MX := MX.turn hT (by simp; omega)
  replace hB := hB.trans (hT.below hB.size (by simp; omega))
  clear hT hg o3
  have hkk : ¬ 1 + 3 * (n : Int) + (k : Int) + 2 * (m : Int) + (u : Int) + (v : Int) + 3 * (s : Int) < 0 := by omega
  have GXc0 := GX.c0
  have GXc1 := GX.c1
  have GWc0 := GW.c0
  have GWc1 := GW.c1
  go_wp2_with fail
  clear GXc0 GXc1 GWc0 GWc1
  refine (eqGraph_same p2 _ _ n2 _ _ F T H2 hn29 _ sX.ra sW.ra).mono ?_
  rintro e e2a ⟨rfl, hbq⟩
  replace Y0 := Y0.next hbq
  replace Y1 := Y1.next hbq
  replace Y2 := Y2.next hbq
  replace sW := sW.next hbq
  replace GW := GW.next hbq
  replace MW := MW.next hbq
  replace sX := sX.next hbq
  replace GX := GX.next hbq
  replace MX := MX.next hbq
  replace hB := below_next hB (Nat.le_refl _) hbq
  clear hbq
  have MXc0 := MX.c0
  have MXc1 := MX.c1
  have MWc0 := MW.c0
  have MWc1 := MW.c1
  go_wp2_with fail
  clear MXc0 MXc1 MWc0 MWc1
  refine (eqMetric_same _ _ N _ _ CU _ _ N _ _ CD hN9 hN9 _ sX.rx sW.rx sX.ry sW.ry).mono ?_
  rintro e e2b ⟨rfl, hbq⟩
  replace Y0 := Y0.next hbq
  replace Y1 := Y1.next hbq
  replace Y2 := Y2.next hbq
  replace sW := sW.next hbq
  replace GW := GW.next hbq
  replace MW := MW.next hbq
  replace sX := sX.next hbq
  replace GX := GX.next hbq
  replace MX := MX.next hbq
  replace hB := below_next hB (Nat.le_refl _) hbq
  clear hbq
  have GXc0 := GX.c0
  have GXc1 := GX.c1
  go_wp2_with fail
  clear GXc0 GXc1
  refine (markGraph_any p2 dX n2 _ (ar F T H2) 1 (by omega) (by omega) hn29 _ sX.ha _ sX.ea).mono ?_
  rintro e m1w ⟨rfl, haY, hg⟩
  have hT := Turns.of_grown hg
  have iX : 0 < N → IHas m1w bX N CU := fun x => hT.ihas (by simp; omega) (sX.hx x)
  have jX : 0 < N → IHas m1w cX N CD := fun x => hT.ihas (by simp; omega) (sX.hy x)
  have eaX := sX.ea
  have eX1 := sX.ex
  have eX2 := sX.ey
  replace Y0 := Y0.turn hT (by simp; omega)
  replace Y1 := Y1.turn hT (by simp; omega)
  replace Y2 := Y2.turn hT (by simp; omega)
  replace sW := sW.turn hT (by simp; omega) (by simp; omega) (by simp; omega)
  replace GW := GW.turn hT (by simp; omega)
  replace MW := MW.turn hT (by simp; omega)
  replace GX := GX.turn hT (by simp; omega)
  replace MX := MX.turn hT (by simp; omega)
  replace hB := hB.trans (hT.below hB.size (by simp; omega))
  clear hT hg sX
  have MXc0 := MX.c0
  have MXc1 := MX.c1
  have bGX := GX.lt
  go_wp2_with fail
  clear MXc0 MXc1
  refine (markMetric_any bX cX N N _ _ CU CD (1 + 3 * (n2 : Int)) (by omega) (by omega) hN9 hN9 _ iX jX (by omega) _ eX1 _ eX2 (by omega) (by omega)).mono ?_
  rintro e m2w ⟨rfl, iY, jY, hT⟩
  replace Y0 := Y0.turn hT (by simp; omega)
  replace Y1 := Y1.turn hT (by simp; omega)
  replace Y2 := Y2.turn hT (by simp; omega)
  replace sW := sW.turn hT (by simp; omega) (by simp; omega) (by simp; omega)
  replace GW := GW.turn hT (by simp; omega)
  replace MW := MW.turn hT (by simp; omega)
  replace GX := GX.turn hT (by simp; omega)
  replace MX := MX.turn hT (by simp; omega)
  replace hB := hB.trans (hT.below hB.size (by simp; omega))
  have sY : RcL m2w aoX xoX yoX n2 N dX bX cX (mk 1) (mki (1 + 3 * (n2 : Int))) (mki (1 + 3 * (n2 : Int) + N)) := ⟨eaX, fun x => hT.has (by simp; omega) (haY x), eX1, iY, eX2, jY⟩
  clear hT iX jX iY jY haY eaX eX1 eX2 bGX
  have hq1 : ¬ 1 + 3 * (n2 : Int) < 0 := by omega
  have hq2 : ¬ 1 + 3 * (n2 : Int) + N + N < 0 := by omega
  have GXc0 := GX.c0
  have GXc1 := GX.c1
  go_wp2_with fail
  clear GXc0 GXc1
  refine (heldGraph_any p2 dX n2 _ 1 (by omega) (by omega) hn29 _ sY.ha _ sY.ea).mono ?_
  rintro e h1a ⟨rfl, hbq⟩
  replace Y0 := Y0.next hbq
  replace Y1 := Y1.next hbq
  replace Y2 := Y2.next hbq
  replace sW := sW.next hbq
  replace GW := GW.next hbq
  replace MW := MW.next hbq
  replace GX := GX.next hbq
  replace MX := MX.next hbq
  replace sY := sY.next hbq
  replace hB := below_next hB (Nat.le_refl _) hbq
  clear hbq
  have MXc0 := MX.c0
  have MXc1 := MX.c1
  go_wp2_with fail
  clear MXc0 MXc1
  refine (heldMetric_any bX cX N N _ _ (1 + 3 * (n2 : Int)) (by omega) (by omega) hN9 hN9 _ sY.hx sY.hy _ sY.ex _ sY.ey).mono ?_
  rintro e h1b ⟨rfl, hbq⟩
  replace Y0 := Y0.next hbq
  replace Y1 := Y1.next hbq
  replace Y2 := Y2.next hbq
  replace sW := sW.next hbq
  replace GW := GW.next hbq
  replace MW := MW.next hbq
  replace GX := GX.next hbq
  replace MX := MX.next hbq
  replace sY := sY.next hbq
  replace hB := below_next hB (Nat.le_refl _) hbq
  clear hbq
  go_wp2_with fail
  have hbd := (Below.refl h1b.heap.size h1b).drew
  replace Y0 := Y0.next hbd
  replace Y1 := Y1.next hbd
  replace Y2 := Y2.next hbd
  replace sW := sW.next hbd
  replace GW := GW.next hbd
  replace MW := MW.next hbd
  replace GX := GX.next hbd
  replace MX := MX.next hbd
  replace sY := sY.next hbd
  replace hB := below_next hB (Nat.le_refl _) hbd
  clear hbd
  have y00 := Y0.c0
  have y01 := Y0.c1
  have y10 := Y1.c0
  have y11 := Y1.c1
  have y20 := Y2.c0
  have y21 := Y2.c1
  have szQ : w.heap.size + 3 ≤ h1b.heap.size := by have h9 := GX.lt; simp only [World.size_drew] at h9; omega
  have szQd : h1b.heap.size ≤ h1b.drew.heap.size := Nat.le_refl _
  clear fW f0 f1 f2 f3 fX
  have HBL : Hid (Below h1b.drew.heap.size h1b.drew h1b.drew) := Below.refl _ _
  refine region_rec (D := ⟨p, ao, n, cap, F, T, G, po, k, pcap, P, eo, m, ecap, L, H, uo, u, ucap, U, vo, v, vcap, V, so, s, scap, A, B, C⟩) (O := ⟨p2, n2, H2, N, CU, CD, ok⟩) (q := 161) (g := 23) (fc := 22) (b0 := w.heap.size) (b1 := w.heap.size + 1) (b2 := w.heap.size + 1 + 1) ⟨by kernel_rfl, (show 161 + 12 < 202 by omega), by omega, by omega, hn, hk, hm, hu9, hv9, hs, hr.below hB (Nat.le_refl _), hp.below hB (Nat.le_refl _), he.below hB (Nat.le_refl _), hu.below hB (Nat.le_refl _), hv.below hB (Nat.le_refl _), ha.below hB (Nat.le_refl _), fun _ _ _ _ _ h => h, fun _ _ => by simp [go_sem], HIM.out, ?_⟩ rfl rfl rfl rfl y00 y01 y10 y11 y20 y21
  intro wLZ bGZ bXZ aoZ capZ xoZ xcZ yoZ ycZ dZ bZ cZ zZ KZ
  simp only [rfin, Act.put, List.setIfInBounds_toArray, List.set_cons_zero, List.set_cons_succ, Nat.reduceAdd]
  clear y00 y01 y10 y11 y20 y21
  have hbL := KZ.bel
  replace Y0 := Y0.next hbL
  replace Y1 := Y1.next hbL
  replace Y2 := Y2.next hbL
  replace sW := sW.next hbL
  replace GW := GW.next hbL
  replace MW := MW.next hbL
  replace GX := GX.next hbL
  replace MX := MX.next hbL
  replace sY := sY.next hbL
  replace hB := below_next hB (Nat.le_refl _) hbL
  clear hbL
  have sZ : RcL wLZ aoZ xoZ yoZ n2 N dZ bZ cZ (ar F T H2) CU CD := ⟨KZ.ea, KZ.ha, KZ.ex, KZ.hx, KZ.ey, KZ.hy⟩
  have GZ : Bx2 wLZ bGZ (.int .i64 p2) (.slice aoZ n2 capZ) := ⟨KZ.g0, KZ.g1⟩
  have MZ : Bx2 wLZ bXZ (.slice xoZ N xcZ) (.slice yoZ N ycZ) := ⟨KZ.x0, KZ.x1⟩
  clear KZ HBL
  have GZc0 := GZ.c0
  have GZc1 := GZ.c1
  have GWc0 := GW.c0
  have GWc1 := GW.c1
  go_wp2_with fail
  clear GZc0 GZc1 GWc0 GWc1
  refine (eqGraph_same p2 _ _ n2 _ _ F T H2 hn29 _ sZ.ra sW.ra).mono ?_
  rintro e e3a ⟨rfl, hbq⟩
  replace Y0 := Y0.next hbq
  replace Y1 := Y1.next hbq
  replace Y2 := Y2.next hbq
  replace sW := sW.next hbq
  replace GW := GW.next hbq
  replace MW := MW.next hbq
  replace GX := GX.next hbq
  replace MX := MX.next hbq
  replace sY := sY.next hbq
  replace sZ := sZ.next hbq
  replace GZ := GZ.next hbq
  replace MZ := MZ.next hbq
  replace hB := below_next hB (Nat.le_refl _) hbq
  clear hbq
  have MZc0 := MZ.c0
  have MZc1 := MZ.c1
  have MWc0 := MW.c0
  have MWc1 := MW.c1
  go_wp2_with fail
  clear MZc0 MZc1 MWc0 MWc1
  refine (eqMetric_same _ _ N _ _ CU _ _ N _ _ CD hN9 hN9 _ sZ.rx sW.rx sZ.ry sW.ry).mono ?_
  rintro e e3b ⟨rfl, hbq⟩
  replace Y0 := Y0.next hbq
  replace Y1 := Y1.next hbq
  replace Y2 := Y2.next hbq
  replace sW := sW.next hbq
  replace GW := GW.next hbq
  replace MW := MW.next hbq
  replace GX := GX.next hbq
  replace MX := MX.next hbq
  replace sY := sY.next hbq
  replace sZ := sZ.next hbq
  replace GZ := GZ.next hbq
  replace MZ := MZ.next hbq
  replace hB := below_next hB (Nat.le_refl _) hbq
  clear hbq
  have GXc0 := GX.c0
  have GXc1 := GX.c1
  go_wp2_with fail
  clear GXc0 GXc1
  refine (heldGraph_any p2 dX n2 _ 1 (by omega) (by omega) hn29 _ sY.ha _ sY.ea).mono ?_
  rintro e h2a ⟨rfl, hbq⟩
  replace Y0 := Y0.next hbq
  replace Y1 := Y1.next hbq
  replace Y2 := Y2.next hbq
  replace sW := sW.next hbq
  replace GW := GW.next hbq
  replace MW := MW.next hbq
  replace GX := GX.next hbq
  replace MX := MX.next hbq
  replace sY := sY.next hbq
  replace sZ := sZ.next hbq
  replace GZ := GZ.next hbq
  replace MZ := MZ.next hbq
  replace hB := below_next hB (Nat.le_refl _) hbq
  clear hbq
  have MXc0 := MX.c0
  have MXc1 := MX.c1
  go_wp2_with fail
  clear MXc0 MXc1
  refine (heldMetric_any bX cX N N _ _ (1 + 3 * (n2 : Int)) (by omega) (by omega) hN9 hN9 _ sY.hx sY.hy _ sY.ex _ sY.ey).mono ?_
  rintro e h2b ⟨rfl, hbq⟩
  replace Y0 := Y0.next hbq
  replace Y1 := Y1.next hbq
  replace Y2 := Y2.next hbq
  replace sW := sW.next hbq
  replace GW := GW.next hbq
  replace MW := MW.next hbq
  replace GX := GX.next hbq
  replace MX := MX.next hbq
  replace sY := sY.next hbq
  replace sZ := sZ.next hbq
  replace GZ := GZ.next hbq
  replace MZ := MZ.next hbq
  replace hB := below_next hB (Nat.le_refl _) hbq
  clear hbq
  go_wp2
  go_ret
  exact ⟨rfl, hB⟩

end Go.Proofs.Ytmnohgcjdhokdah
