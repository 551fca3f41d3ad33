/-
  Proved: at every list of bytes the law FnOrders answers true, and its argument reads behind the call as it read before. No condition.
-/
import Derived.Test.YtaddhiojahmbpaaOrdEach
import Derived.Test.YtaddhiojahmbpaaDrawOrd
import Derived.Test.YtaddhiojahmbpaaFnBase
import Derived.Test.YtaddhiojahmbpaaOrderOk
set_option linter.unusedVariables false
set_option linter.unusedSimpArgs false
namespace Go.Proofs.Ytaddhiojahmbpaa
open Go.ChangeShapes Go.WideShapes Go.ChangeAt Go.RowKit Go.Deep Go.Joins
attribute [local go_sem ↓] Go.wp_at_zero Go.wp_at_succ

set_option maxHeartbeats 1000000 in
theorem drawOrder_any (ao : Option Addr) (n cap : Nat) (hn : n ≤ 4096) (w : World) (hr : ByRow w w.heap.size ao n) :
    Calls Try.prog 25 #[.slice ao n cap] w fun e w' => ∃ (p : Int) (go : Option Addr) (k gc : Nat), e = .returned (.agg #[.int .i64 p, .slice go k gc]) ∧ k ≤ 200 ∧ Drawn w w' go k ∧ Below w.heap.size w w' := by
  have hal0 := (Below.refl w.heap.size w).alloc (Nat.le_refl _) (.cells #[.int .i64 0, .slice none 0 0] 26)
  go_enter Try.func25, Try.ntmps25
  go_wp2_with fail
  refine (drawGraph_any ao n cap hn _ (hr.up hal0)).mono ?_
  rintro e w3 ⟨p, go, k, gc, rfl, hk, ⟨F, T, G, hrow, hblk⟩, hb3⟩
  have hrb3 := (gr_new w 0 (.slice none 0 0)).below hb3 (by simp)
  have hbel3 := below_next hal0 (Nat.le_refl _) hb3
  have r0 : w3.cell? ⟨w.heap.size, 0, none⟩ = some (.int .i64 0) := hrb3.cell (j := 0) (by omega)
  have r1 : w3.cell? ⟨w.heap.size, 1, none⟩ = some (.slice none 0 0) := hrb3.cell (j := 1) (by omega)
  have y0 := hrb3.frozen 0
  have y1 := hrb3.frozen 1
  obtain ⟨q0, q1, q2⟩ := res_cells hrb3 p (.slice go k gc)
  have h1 := gr_setCell w3 w.heap.size 0 (.int .i64 p)
  have h2 := gr_setCell (w3.setCell ⟨w.heap.size, 0, none⟩ (.int .i64 p)) w.heap.size 1 (.slice go k gc)
  have o1 : Drawn w ((w3.setCell ⟨w.heap.size, 0, none⟩ (.int .i64 p)).setCell ⟨w.heap.size, 1, none⟩ (.slice go k gc)) go k :=
    ⟨F, T, G, (hrow.otherB h1 (fun a e h => by have := hblk a e h; simp at this ⊢; omega)).otherB h2 (fun a e h => by have := hblk a e h; simp at this ⊢; omega), fun a e h => by have := hblk a e h; simp at this; omega⟩
  have o2 : Below w.heap.size w ((w3.setCell ⟨w.heap.size, 0, none⟩ (.int .i64 p)).setCell ⟨w.heap.size, 1, none⟩ (.slice go k gc)) := (hbel3.setCell (p := ⟨w.heap.size, 0, none⟩) (Nat.le_refl _) _).setCell (p := ⟨w.heap.size, 1, none⟩) (Nat.le_refl _) _
  clear hrb3 hal0 hb3 h1 h2
  go_wp2
  exact bodyPost_ret (v := .agg #[.int .i64 p, .slice go k gc]) (by simp [results, Try.results25, go_sem, q0, q1, q2]) rfl ⟨p, go, k, gc, rfl, hk, o1, o2⟩

set_option maxRecDepth 100000 in
set_option maxHeartbeats 16000000 in
theorem lawFnOrders_walk (ao : Option Addr) (n cap : Nat) (hn : n ≤ maxLen) (w : World) (hr : ByRow w w.heap.size ao n) :
    Calls Try.prog 5 #[.slice ao n cap] w fun e w' => e = .returned (.bool true) ∧ Below w.heap.size w w' := by
  unfold maxLen at hn
  by_cases hbig : 4096 < n
  · have hd : decide (4096 < n) = true := by simp [hbig]
    go_enter Try.func5, Try.ntmps5
    go_wp2_with (go_at_call 7; refine (big_any ao n cap (by omega) _).mono ?_; rintro e wq ⟨rfl, rfl⟩)
    go_ret
    exact ⟨rfl, Below.refl _ _⟩
  have hd : decide (4096 < n) = false := by simp [hbig]
  have hn' : n ≤ 4096 := by omega
  go_enter Try.func5, Try.ntmps5
  go_wp2_with fail
  refine (big_any ao n cap (by omega) _).mono ?_
  rintro e wq ⟨rfl, hq⟩
  have hq' := hq.symm
  subst hq'
  clear hq
  rw [hd]
  clear hd
  go_wp2_with fail
  refine (drawOrder_any ao n cap hn' _ hr).mono ?_
  rintro e w1 ⟨p, go, k, gc, rfl, hk, ⟨F, T, G, hrow1, _⟩, hb1⟩
  have hal1 := (Below.refl w1.heap.size w1).alloc (Nat.le_refl _) (.cells #[.int .i64 p, .slice go k gc] 26)
  have hA1 := below_next hb1 (Nat.le_refl _) hal1
  have hrw1 := hrow1.alloc (.cells #[.int .i64 p, .slice go k gc] 26)
  have hk' : k ≤ 1048576 := by omega
  obtain ⟨m, hm⟩ : ∃ m, lenO p k F T G = m := ⟨_, rfl⟩
  obtain ⟨D, hDD⟩ : ∃ D, listO p k F T = D := ⟨_, rfl⟩
  have hm24 : m ≤ 24 := by rw [← hm]; exact lenO_le p k F T G
  have hio := fun W hr' => implOrder_any p go k gc F T G hk' W hr'
  have hso := fun W hr' => specOrder_any p go k gc F T G hk' W hr'
  rw [hm, hDD] at hio hso
  have HIO : Hid (∀ W, Row W go k F T G → Calls Try.prog 26 #[.agg #[.int .i64 p, .slice go k gc]] W fun e w' => Ans W w' e m D) := hio
  have HSO : Hid (∀ W, Row W go k F T G → Calls Try.prog 27 #[.agg #[.int .i64 p, .slice go k gc]] W fun e w' => Ans W w' e m D) := hso
  have HM : Hid (lenO p k F T G = m) := hm
  have HD : Hid (listO p k F T = D) := hDD
  clear hio hso hm hDD hrow1 hal1 hb1
  have g0 : (w1.alloc (.cells #[.int .i64 p, .slice go k gc] 26)).cell? ⟨w1.heap.size, 0, none⟩ = some (.int .i64 p) := by simp [go_sem]
  have g1 : (w1.alloc (.cells #[.int .i64 p, .slice go k gc] 26)).cell? ⟨w1.heap.size, 1, none⟩ = some (.slice go k gc) := by simp [go_sem]
  go_wp2_with fail
  refine (HIO.out _ hrw1).mono ?_
  rintro e w2 ⟨aoD, capD, rfl, hD2, hb2⟩
  have hA2 := below_next hA1 (Nat.le_refl _) hb2
  have hd2 := ans_row hD2
  have hrw2 := hrw1.below hb2 (Nat.le_refl _)
  have c0 := keep_cell hb2 (Nat.le_refl _) g0
  have c1 := keep_cell hb2 (Nat.le_refl _) g1
  clear hD2 hb2 hrw1 g0 g1 hA1
  obtain ⟨gB, hgB⟩ : ∃ gB, w1.heap.size = gB := ⟨_, rfl⟩
  rw [hgB] at c0 c1 ⊢
  clear hgB
  have hm' : m ≤ 1048576 := by omega
  go_wp2_with fail
  refine (HSO.out _ hrw2).mono ?_
  rintro e w3 ⟨aoW, capW, rfl, hW3, hb3⟩
  have hw3 := ans_row hW3
  have hd3 := hd2.below hb3 (Nat.le_refl _)
  have hrw3 := hrw2.below hb3 (Nat.le_refl _)
  have hA3 := below_next hA2 (Nat.le_refl _) hb3
  replace c0 := keep_cell hb3 (Nat.le_refl _) c0
  replace c1 := keep_cell hb3 (Nat.le_refl _) c1
  clear hW3 hb3 hA2 hd2 hrw2
  go_wp2_with fail
  refine (likeInts_same aoD aoW m capD capW D hm' _ hd3 hw3).mono ?_
  rintro e w4 ⟨rfl, hb4⟩
  have hd4 := hd3.below hb4 (Nat.le_refl _)
  have hrw4 := hrw3.below hb4 (Nat.le_refl _)
  have hA4 := below_next hA3 (Nat.le_refl _) hb4
  replace c0 := keep_cell hb4 (Nat.le_refl _) c0
  replace c1 := keep_cell hb4 (Nat.le_refl _) c1
  clear hb4 hA3 hd3 hrw3 hw3
  go_wp2_with fail
  refine (drawOrderOk_any ao n cap hn' _ (hr.up hA4)).mono ?_
  rintro e w5 ⟨p2, go2, k2, gc2, po, m2, pc, P2, rfl, hk2, hm2, ⟨F2, T2, G2, hrow5, _⟩, hP5, hb5⟩
  have hal5 := ((Below.refl w5.heap.size w5).alloc (Nat.le_refl _) (.cells #[.int .i64 p2, .slice go2 k2 gc2] 26))
  have hA6 := below_next (below_next hA4 (Nat.le_refl _) hb5) (Nat.le_refl _) hal5
  have hd6 := (hd4.below hb5 (Nat.le_refl _)).below hal5 (Nat.le_refl _)
  have hrw6 := (hrw4.below hb5 (Nat.le_refl _)).below hal5 (Nat.le_refl _)
  have hq6 := hrow5.below hal5 (Nat.le_refl _)
  have hP6 := hP5.below hal5 (Nat.le_refl _)
  have k0 := keep_cell hal5 (Nat.le_refl _) (keep_cell hb5 (Nat.le_refl _) c0)
  have k1 := keep_cell hal5 (Nat.le_refl _) (keep_cell hb5 (Nat.le_refl _) c1)
  have h0 : (w5.alloc (.cells #[.int .i64 p2, .slice go2 k2 gc2] 26)).cell? ⟨w5.heap.size, 0, none⟩ = some (.int .i64 p2) := by simp [go_sem]
  have h1 : (w5.alloc (.cells #[.int .i64 p2, .slice go2 k2 gc2] 26)).cell? ⟨w5.heap.size, 1, none⟩ = some (.slice go2 k2 gc2) := by simp [go_sem]
  clear hA4 hd4 hrw4 hrow5 hP5 hb5 hal5 c0 c1
  have hk2' : k2 ≤ 1048576 := by omega
  have hm2' : m2 ≤ 1048576 := by omega
  obtain ⟨bo, hbo⟩ : ∃ bo, ordB p2 k2 F2 T2 G2 m2 P2 = bo := ⟨_, rfl⟩
  obtain ⟨m3, hm3⟩ : ∃ m3, lenR m2 P2 = m3 := ⟨_, rfl⟩
  obtain ⟨R2, hR2⟩ : ∃ R2, rk P2 (-1) m2 = R2 := ⟨_, rfl⟩
  have hm3' : m3 ≤ 24 := by rw [← hm3]; exact lenR_le m2 P2
  have hi1 := fun W hr' hp' => implOrderOk_any p2 go2 k2 gc2 F2 T2 G2 po m2 pc P2 hk2' hm2' W hr' hp'
  have hs1 := fun W hr' hp' => specOrderOk_any p2 go2 k2 gc2 F2 T2 G2 po m2 pc P2 hk2' hm2' W hr' hp'
  have hi2 := fun W hp' => implRanks_any po m2 pc P2 hm2' W hp'
  have hs2 := fun W hp' => specRanks_any po m2 pc P2 hm2' W hp'
  rw [hbo] at hi1 hs1
  rw [hm3, hR2] at hi2 hs2
  have HI1 : Hid (∀ W, Row W go2 k2 F2 T2 G2 → IRow W po m2 P2 → Calls Try.prog 29 #[.agg #[.int .i64 p2, .slice go2 k2 gc2], .slice po m2 pc] W fun e w' => e = .returned (.bool bo) ∧ Below W.heap.size W w') := hi1
  have HS1 : Hid (∀ W, Row W go2 k2 F2 T2 G2 → IRow W po m2 P2 → Calls Try.prog 30 #[.agg #[.int .i64 p2, .slice go2 k2 gc2], .slice po m2 pc] W fun e w' => e = .returned (.bool bo) ∧ Below W.heap.size W w') := hs1
  have HI2 : Hid (∀ W, IRow W po m2 P2 → Calls Try.prog 31 #[.slice po m2 pc] W fun e w' => Ans W w' e m3 R2) := hi2
  have HS2 : Hid (∀ W, IRow W po m2 P2 → Calls Try.prog 32 #[.slice po m2 pc] W fun e w' => Ans W w' e m3 R2) := hs2
  clear hi1 hs1 hi2 hs2 hbo hm3 hR2
  have hm3'' : m3 ≤ 1048576 := by omega
  go_wp2_with fail
  generalize hW6 : (w5.alloc (.cells #[.int .i64 p2, .slice go2 k2 gc2] 26)) = w6 at hA6 hd6 hrw6 hq6 hP6 k0 k1 h0 h1 ⊢
  generalize w5.heap.size = hB at h0 h1 ⊢
  clear hW6
  have hAd := hA6.drew
  have hdd := hd6.below (Below.refl w6.heap.size w6).drew (Nat.le_refl _)
  have hrd := hrw6.below (Below.refl w6.heap.size w6).drew (Nat.le_refl _)
  have hqd := hq6.below (Below.refl w6.heap.size w6).drew (Nat.le_refl _)
  have hPd := hP6.below (Below.refl w6.heap.size w6).drew (Nat.le_refl _)
  have hbb : (bo != bo) = false := by simp
  go_region_held3 (fun w' => w'.cell? ⟨hB, 0, none⟩ = some (.int .i64 p2) ∧ w'.cell? ⟨hB, 1, none⟩ = some (.slice go2 k2 gc2))
    (first | (go_split_ands; refine ⟨?_, ?_⟩ <;> first | exact keep_cell hb11 (Nat.le_refl _) (by assumption) | exact keep_cell hb10 (Nat.le_refl _) (by assumption) | exact keep_cell hb9 (Nat.le_refl _) (by assumption) | exact keep_cell hb8 (Nat.le_refl _) (by assumption) | exact keep_cell hb7 (Nat.le_refl _) (by assumption)) | go_keep)
    (first | (go_at_call 29; refine (HI1.out _ hqd hPd).mono ?_; rintro e w7 ⟨rfl, hb7⟩; have hq7 := hqd.below hb7 (Nat.le_refl _); have hP7 := hPd.below hb7 (Nat.le_refl _))
            | (go_at_call 30; refine (HS1.out _ hq7 hP7).mono ?_; rintro e w8 ⟨rfl, hb8⟩; have hP8 := hP7.below hb8 (Nat.le_refl _))
            | (go_at_call 31; refine (HI2.out _ hP8).mono ?_; rintro e w9 ⟨aoR, capR, rfl, hR9, hb9⟩; have hP9 := hP8.below hb9 (Nat.le_refl _); have hr9 := ans_row hR9)
            | (go_at_call 32; refine (HS2.out _ hP9).mono ?_; rintro e w10 ⟨aoS, capS, rfl, hS10, hb10⟩; have hs10 := ans_row hS10; have hr10 := hr9.below hb10 (Nat.le_refl _))
            | (go_at_call 18; refine (likeInts_same aoR aoS m3 capR capS R2 hm3'' _ hr10 hs10).mono ?_; rintro e w11 ⟨rfl, hb11⟩))
  have hBa := below_next (below_next (below_next (below_next (below_next (Below.refl w6.heap.size w6).drew (Nat.le_refl _) hb7) (Nat.le_refl _) hb8) (Nat.le_refl _) hb9) (Nat.le_refl _) hb10) (Nat.le_refl _) hb11
  have hA11 := below_next hA6 (Nat.le_refl _) hBa
  have hd11 := hd6.below hBa (Nat.le_refl _)
  have hrw11 := hrw6.below hBa (Nat.le_refl _)
  have g0 := keep_cell hBa (Nat.le_refl _) k0
  have g1 := keep_cell hBa (Nat.le_refl _) k1
  clear hAd hdd hrd hqd hPd hq7 hP7 hP8 hR9 hP9 hr9 hS10 hs10 hr10 hb7 hb8 hb9 hb10 hb11 hBa hA6 hd6 hrw6 hq6 hP6 k0 k1 h0 h1 HI1 HS1 HI2 HS2 hbb
  by_cases h0 : m = 0
  · subst h0
    have hg : graphB p k F T G = false := by
      have := HM.out
      unfold lenO at this
      cases hx : graphB p k F T G
      · rfl
      · rw [hx] at this
        have hpp : 1 ≤ p ∧ p ≤ 24 := by simpa [inB] using graphB_p hx
        simp at this
        omega
    have HG := fun W hr' => implGraphOk_any p go k gc F T G hk' W hr'
    rw [hg] at HG
    go_wp2_with (go_at_call 15; refine (HG _ hrw11).mono ?_; rintro e w12 ⟨rfl, hb12⟩)
    go_ret
    exact ⟨rfl, below_next hA11 (Nat.le_refl _) hb12⟩
  have hg : graphB p k F T G = true := by
    have := HM.out
    unfold lenO at this
    cases hx : graphB p k F T G
    · rw [hx] at this
      exact absurd this.symm h0
    · rfl
  have hpp : 1 ≤ p ∧ p ≤ 24 := by simpa [inB] using graphB_p hg
  obtain ⟨pn, rfl⟩ : ∃ pn : Nat, p = (pn : Int) := ⟨p.toNat, by omega⟩
  have hmp : m = pn := by
    have := HM.out
    unfold lenO at this
    rw [hg] at this
    simpa using this.symm
  subst hmp
  have he : eachB m D m = true := by rw [← HD.out]; exact order_each hg
  have HE : Hid (eachB m D m = true) := he
  have hokR : okR m D = true := by simp [okR, he]; omega
  have hlen : lenR m D = m := by simp [lenR, hokR]
  have hord : ordB (m : Int) k F T G m D = true := by simp [ordB, hg, hokR]
  obtain ⟨R, hR⟩ : ∃ R, rk D (-1) m = R := ⟨_, rfl⟩
  have hback := ranks_back he
  rw [hR] at hback
  have HRK : Hid (∀ i, i < m → (0 ≤ D i ∧ D i < (m : Int)) ∧ R (D i).toNat = (i : Int)) := fun i hi => by
    rw [← hR]
    exact ⟨(each_in m he i hi).1, rk_is (-1) m he i hi⟩
  have hlen2 : lenR m R = m := by simp [lenR, okR, hback.1]; omega
  have hir := fun ao' cap' W hp' => implRanks_any ao' m cap' D hm' W hp'
  have hir2 := fun ao' cap' W hp' => implRanks_any ao' m cap' R hm' W hp'
  have hio := fun ao' cap' W hr' hp' => implOrderOk_any (m : Int) go k gc F T G ao' m cap' D hk' hm' W hr' hp'
  rw [hlen, hR] at hir
  rw [hlen2] at hir2
  rw [hord] at hio
  have HIR : Hid (∀ ao' cap' W, IRow W ao' m D → Calls Try.prog 31 #[.slice ao' m cap'] W fun e w' => Ans W w' e m R) := hir
  have HIR2 : Hid (∀ ao' cap' W, IRow W ao' m R → Calls Try.prog 31 #[.slice ao' m cap'] W fun e w' => Ans W w' e m (rk R (-1) m)) := hir2
  have HOK : Hid (∀ ao' cap' W, Row W go k F T G → IRow W ao' m D → Calls Try.prog 29 #[.agg #[.int .i64 (m : Int), .slice go k gc], .slice ao' m cap'] W fun e w' => e = .returned (.bool true) ∧ Below W.heap.size W w') := hio
  have HBK : Hid (∀ j, j < m → rk R (-1) m j = D j) := hback.2
  clear hir hir2 hio hback hR hlen hlen2 hord hokR he HM HD HIO HSO hg h0
  have hm0 : ((m : Int) == 0) = false := by
    rw [beq_eq_false_iff_ne]
    omega
  go_wp2_with fail
  refine (HIR.out _ _ _ hd11).mono ?_
  rintro e w12 ⟨aoQ, capQ, rfl, hQ, hb12⟩
  have hrQ := ans_row hQ
  have hd12 := hd11.below hb12 (Nat.le_refl _)
  have hrw12 := hrw11.below hb12 (Nat.le_refl _)
  have hA12 := below_next hA11 (Nat.le_refl _) hb12
  replace g0 := keep_cell hb12 (Nat.le_refl _) g0
  replace g1 := keep_cell hb12 (Nat.le_refl _) g1
  clear hQ hb12 hd11 hrw11 hA11
  go_wp2_with fail
  try rw [hm0]
  clear hm0
  go_loopw [8] (fun x wr => ∃ i : Nat, i ≤ m ∧ x = .int .i64 i ∧ Below w12.heap.size w12 wr) (fun x _ => m - (intOf x).toNat)
  case atStart => exact ⟨0, Nat.zero_le _, rfl, Below.refl _ _⟩
  case round =>
    obtain ⟨i, hi, rfl, hbel⟩ := hrel
    have b0 := keep_cell hbel (Nat.le_refl _) g0
    have b1 := keep_cell hbel (Nat.le_refl _) g1
    have hdw := hd12.below hbel (Nat.le_refl _)
    have hrq := hrQ.below hbel (Nat.le_refl _)
    have hrww := hrw12.below hbel (Nat.le_refl _)
    have hAw := below_next hA12 (Nat.le_refl _) hbel
    by_cases hlt : i < m
    rotate_left
    · have him : ¬ (i : Int) < (m : Int) := by omega
      go_wp2_with fail
      refine (HOK.out _ _ _ hrww hdw).mono ?_
      rintro e w13 ⟨rfl, hb13⟩
      have hdw13 := hdw.below hb13 (Nat.le_refl _)
      have hrq13 := hrq.below hb13 (Nat.le_refl _)
      have hA13 := below_next hAw (Nat.le_refl _) hb13
      go_wp2_with fail
      refine (HIR2.out _ _ _ hrq13).mono ?_
      rintro e w14 ⟨aoZ, capZ, rfl, hZ, hb14⟩
      have hz14 := (ans_row hZ).congr HBK.out
      have hdw14 := hdw13.below hb14 (Nat.le_refl _)
      have hA14 := below_next hA13 (Nat.le_refl _) hb14
      go_wp2_with fail
      refine (likeInts_same aoZ aoD m capZ capD D hm' _ hz14 hdw14).mono ?_
      rintro e w15 ⟨rfl, hb15⟩
      go_wp2
      go_ret
      exact ⟨rfl, below_next hA14 (Nat.le_refl _) hb15⟩
    have hlt' : (i : Int) < (m : Int) := by omega
    have hi0 : (0 : Int) ≤ (i : Int) := by omega
    obtain ⟨⟨ha0, ha1⟩, hra⟩ := HRK.out i hlt
    obtain ⟨a, ha⟩ : ∃ a : Nat, D i = (a : Int) := ⟨(D i).toNat, by omega⟩
    rw [ha] at ha0 ha1 hra
    rw [Int.toNat_natCast] at hra
    obtain ⟨b, o, e1, c1⟩ := hdw i hlt
    obtain ⟨b', o', e2, c2⟩ := hrq a (by omega)
    subst e1 e2
    rw [ha] at c1
    rw [hra] at c2
    go_wp2
    go_roundw
    case rel => exact ⟨i + 1, by omega, by go_num, hbel⟩
    case measure => simp [intOf]; omega

set_option maxRecDepth 100000 in
theorem lawFnOrders_lifted (os : Os) (started : os.Started) (H : Type) (enc : TypeId × Value → H) :
    ReturnsInHanded {} Try.checked os 5 .any (Rows.fnOrdersSpec.pre6 enc Try.prog Try.f5 Rows.fnOrdersRow.domain false) (Rows.fnOrdersSpec.post enc Try.prog Try.f5 false true false false) := by
  refine returnsInHanded_of_change (C := Try.checked) Try.own started (by kernel_rfl) Try.func5
    (ChangeSpec.witness6 (enc := enc) (C := Try.checked) false ⟨#[], #[.slice none 0 0], []⟩ 8 (by kernel_rfl) (by kernel_rfl) (by kernel_rfl) (by kernel_rfl)) ?_
  intro W base args ds gs before hval0 hW hcnd _
  have hval : ∀ (j : Nat) t v, Try.f5.params[j]? = some t → args[j]? = some v → Value.okWide Try.prog W .any base t v := hval0
  have hW' := hW
  obtain ⟨p, q, hA0, hV, rfl, hfz, hnd⟩ := hW
  have hA : DataW.TrodAll enc Try.prog W 0 (fun _ => true) true Try.f5.params.toList args.toList ds p := hA0
  rw [Try.params5] at hA hval
  obtain ⟨v1, vs1, d1, ds1, p1, q1, hargs, rfl, rfl, h1, r1⟩ := trodAll_cons hA
  obtain ⟨rfl, rfl, rfl⟩ := trodAll_nil r1
  obtain rfl : args = #[v1] := by cases args; simp_all
  obtain ⟨rfl, rfl⟩ := trodVars_none hV
  have k1 := h1
  have lt1 : ∀ x ∈ p1, x.block < W.heap.size := by obtain ⟨m, hm⟩ := k1; exact DataW.trod_lt m _ _ _ hm
  obtain ⟨b1, l1, c1', rfl⟩ := okWide_slice Try.underlying22 (hval 0 22 v1 rfl rfl)
  obtain ⟨f1, hf1⟩ := h1
  obtain ⟨ao2, m2, cap2, e2, hm2, hr2⟩ := open_bytes hf1
  simp [Value.cells] at e2
  obtain ⟨rfl, rfl, rfl⟩ := e2
  clear hA0 hval0
  refine (lawFnOrders_walk b1 l1 c1' hm2 W hr2).mono fun e W' ⟨he, bel⟩ => ?_
  subst he
  exact ⟨_, rfl, _, _, _, [], _, [], hW', trodAll_mk1 (shut_bool Try.underlying4 _), (trodAll_cons_mk (Below.trod Try.laidOut (by kernel_rfl) (of_decide_eq_true (by kernel_rfl)) k1 bel lt1) trodAll_mk0), rfl, bel.frame _, fun h => by cases h⟩

theorem fnOrders_holds : Rows.FnOrdersSaid :=
  OpenClaim.holds_of_wide 5 Try.f5 rfl rfl rfl rfl rfl rfl rfl ⟨rfl, rfl, rfl, rfl, rfl⟩ rfl rfl rfl rfl rfl (by kernel_rfl) Try.func5 (by kernel_rfl)
    (of_decide_eq_true (by kernel_rfl)) (by unfold Func.isWrapper; first | (rw [if_pos (by decide +kernel)]; kernel_rfl) | (rw [if_neg (by decide +kernel)]; exact ⟨rfl, rfl⟩))
    (fun os started H enc _ => lawFnOrders_lifted os started H enc)
#print axioms fnOrders_holds

end Go.Proofs.Ytaddhiojahmbpaa
