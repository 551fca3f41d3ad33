/-
  Proved: at every list of bytes the law FnDistances answers true, and its argument reads behind the call as it read before. No condition.
-/
import Derived.Test.YtkmkkdjacdcojaaDistLaw
set_option linter.unusedVariables false
set_option linter.unusedSimpArgs false
namespace Go.Proofs.Ytkmkkdjacdcojaa
open Go.ChangeShapes Go.WideShapes Go.ChangeAt Go.RowKit Go.Deep Go.Joins
attribute [local go_sem ↓] Go.wp_at_zero Go.wp_at_succ

theorem ByRow.up {w W : World} {ao : Option Addr} {n : Nat} (h : ByRow w w.heap.size ao n) (hb : Below w.heap.size w W) : ByRow W W.heap.size ao n := fun k hk => by
  obtain ⟨b, o, v, e, hlt, hc, hv⟩ := (h.below hb (Nat.le_refl _)) k hk
  exact ⟨b, o, v, e, Nat.lt_of_lt_of_le hlt hb.size, hc, hv⟩
theorem ans_row {W w' : World} {ao : Option Addr} {m : Nat} {D : Nat → Int} (h : 0 < m → ∃ g, ao = some ⟨g, 0, none⟩ ∧ W.heap.size ≤ g ∧ IHas w' g m D) : IRow w' ao m D := fun k hk => by
  obtain ⟨g, e, _, hI⟩ := h (by omega)
  subst e
  exact hI.row k hk

set_option maxRecDepth 100000 in
set_option maxHeartbeats 16000000 in
theorem lawFnDist_walk (ao : Option Addr) (n cap : Nat) (hn : n ≤ maxLen) (w : World) (hr : ByRow w w.heap.size ao n) :
    Calls Try.prog 4 #[.slice ao n cap] w fun e w' => e = .returned (.bool true) ∧ Below w.heap.size w w' := by
  unfold maxLen at hn
  by_cases hbig : 4096 < n
  · have hd : decide (4096 < n) = true := by simp [hbig]
    go_enter Try.func4, Try.ntmps4
    go_wp2_with (go_at_call 6; refine (big_any ao n cap (by omega) _).mono ?_; rintro e wq ⟨rfl, rfl⟩)
    go_ret
    exact ⟨rfl, Below.refl _ _⟩
  have hd : decide (4096 < n) = false := by simp [hbig]
  have hn' : n ≤ 4096 := by omega
  go_enter Try.func4, Try.ntmps4
  go_wp2_with fail
  refine (big_any ao n cap (by omega) _).mono ?_
  rintro e wq ⟨rfl, hq⟩
  have hq' := hq.symm
  subst hq'
  clear hq
  rw [hd]
  clear hd
  go_wp2_with fail
  refine (drawDistances_any ao n cap hn' _ hr).mono ?_
  rintro e w1 ⟨p, go, k, gc, s, rfl, hk, ⟨F, T, G, hrow1, _⟩, hb1⟩
  have hal1 := (Below.refl w1.heap.size w1).alloc (Nat.le_refl _) (.cells #[.int .i64 p, .slice go k gc] 26)
  have hA1 := below_next hb1 (Nat.le_refl _) hal1
  have hrw1 := hrow1.alloc (.cells #[.int .i64 p, .slice go k gc] 26)
  have hk' : k ≤ 1048576 := by omega
  obtain ⟨m, hm⟩ : ∃ m, lenD p k F T G s = m := ⟨_, rfl⟩
  obtain ⟨D, hDD⟩ : ∃ D, listD p k F T G s = D := ⟨_, rfl⟩
  have hm24 : m ≤ 24 := by rw [← hm]; exact lenD_le p k F T G s
  have hid := fun W hr' => implDistances_sol p go k gc F T G s hk' W hr'
  have hsd := fun W hr' => specDistances_any p go k gc F T G s hk' W hr'
  have hir := fun W hr' => implReached_any p go k gc F T G s hk' W hr'
  have hsr := fun W hr' => specReached_any p go k gc F T G s hk' W hr'
  rw [hm, hDD] at hid hsd hir hsr
  have HID : Hid (∀ W, Row W go k F T G → Calls Try.prog 16 #[.agg #[.int .i64 p, .slice go k gc], .int .i64 s] W fun e w' => Ans W w' e m D ∧ (okD p k F T G s = true → Sol p.toNat k F T G s.toNat D)) := hid
  have HSD : Hid (∀ W, Row W go k F T G → Calls Try.prog 18 #[.agg #[.int .i64 p, .slice go k gc], .int .i64 s] W fun e w' => Ans W w' e m D) := hsd
  have HIR : Hid (∀ W, Row W go k F T G → Calls Try.prog 19 #[.agg #[.int .i64 p, .slice go k gc], .int .i64 s] W fun e w' => Ans W w' e (rc D m) (rf D m)) := hir
  have HSR : Hid (∀ W, Row W go k F T G → Calls Try.prog 20 #[.agg #[.int .i64 p, .slice go k gc], .int .i64 s] W fun e w' => Ans W w' e (rc D m) (rf D m)) := hsr
  have HM : Hid (lenD p k F T G s = m) := hm
  have hrc := rc_le D m
  clear hid hsd hir hsr hm hDD hrow1 hal1 hb1
  have hgl1 : w1.heap.size < (w1.alloc (.cells #[.int .i64 p, .slice go k gc] 26)).heap.size := by simp
  have g0 : (w1.alloc (.cells #[.int .i64 p, .slice go k gc] 26)).cell? ⟨w1.heap.size, 0, none⟩ = some (.int .i64 p) := by simp [go_sem]
  have g1 : (w1.alloc (.cells #[.int .i64 p, .slice go k gc] 26)).cell? ⟨w1.heap.size, 1, none⟩ = some (.slice go k gc) := by simp [go_sem]
  go_wp2_with fail
  refine (HID.out _ hrw1).mono ?_
  rintro e w2 ⟨⟨aoD, capD, rfl, hD2, hb2⟩, hSol⟩
  have HSOL : Hid (okD p k F T G s = true → Sol p.toNat k F T G s.toNat D) := hSol
  have hA2 := below_next hA1 (Nat.le_refl _) hb2
  have hd2 := ans_row hD2
  have hrw2 := hrw1.below hb2 (Nat.le_refl _)
  have c0 := keep_cell hb2 (Nat.le_refl _) g0
  have c1 := keep_cell hb2 (Nat.le_refl _) g1
  clear hSol hD2 hb2 hrw1 g0 g1 hA1 hgl1
  obtain ⟨gB, hgB⟩ : ∃ gB, w1.heap.size = gB := ⟨_, rfl⟩
  rw [hgB] at c0 c1 ⊢
  clear hgB
  have hdr := (Below.refl w2.heap.size w2).drew
  have hAd := below_next hA2 (Nat.le_refl _) hdr
  have hrd := hrw2.below hdr (Nat.le_refl _)
  have hdd := hd2.below hdr (Nat.le_refl _)
  clear hA2 hrw2 hd2 hdr
  have hm' : m ≤ 1048576 := by omega
  have hrc' : rc D m ≤ 1048576 := by omega
  go_wp2_with fail
  go_region_held3 (fun w' => w'.cell? ⟨gB, 0, none⟩ = some (.int .i64 p) ∧ w'.cell? ⟨gB, 1, none⟩ = some (.slice go k gc))
    (first | (go_split_ands; refine ⟨?_, ?_⟩ <;> first | exact keep_cell hb7 (Nat.le_refl _) (by assumption) | exact keep_cell hb6 (Nat.le_refl _) (by assumption) | exact keep_cell hb5 (Nat.le_refl _) (by assumption) | exact keep_cell hb4 (Nat.le_refl _) (by assumption) | exact keep_cell hb3 (Nat.le_refl _) (by assumption)) | go_keep)
    (first | (go_at_call 18; refine (HSD.out _ hrd).mono ?_; rintro e w3 ⟨aoW, capW, rfl, hW3, hb3⟩; have hw3 := ans_row hW3; have hd3 := hdd.below hb3 (Nat.le_refl _); have hr3 := hrd.below hb3 (Nat.le_refl _); have hA3 := below_next hAd (Nat.le_refl _) hb3)
            | (go_at_call 19; refine (HIR.out _ hr4).mono ?_; rintro e w5 ⟨aoR, capR, rfl, hR5, hb5⟩; have hx5 := ans_row hR5; have hd5 := hd4.below hb5 (Nat.le_refl _); have hr5 := hr4.below hb5 (Nat.le_refl _); have hA5 := below_next hA4 (Nat.le_refl _) hb5)
            | (go_at_call 20; refine (HSR.out _ hr5).mono ?_; rintro e w6 ⟨aoS, capS, rfl, hS6, hb6⟩; have hs6 := ans_row hS6; have hx6 := hx5.below hb6 (Nat.le_refl _); have hd6 := hd5.below hb6 (Nat.le_refl _); have hr6 := hr5.below hb6 (Nat.le_refl _); have hA6 := below_next hA5 (Nat.le_refl _) hb6)
            | (go_at_call 17; refine (likeInts_same aoR aoS (rc D m) capR capS (rf D m) hrc' _ hx6 hs6).mono ?_; rintro e w7 ⟨rfl, hb7⟩; have hd7 := hd6.below hb7 (Nat.le_refl _); have hr7 := hr6.below hb7 (Nat.le_refl _); have hA7 := below_next hA6 (Nat.le_refl _) hb7)
            | (go_at_call 17; refine (likeInts_same aoD aoW m capD capW D hm' _ hd3 hw3).mono ?_; rintro e w4 ⟨rfl, hb4⟩; have hd4 := hd3.below hb4 (Nat.le_refl _); have hr4 := hr3.below hb4 (Nat.le_refl _); have hA4 := below_next hA3 (Nat.le_refl _) hb4))
  have k0 : w7.cell? ⟨gB, 0, none⟩ = some (.int .i64 p) := keep_cell hb7 (Nat.le_refl _) (keep_cell hb6 (Nat.le_refl _) (keep_cell hb5 (Nat.le_refl _) (keep_cell hb4 (Nat.le_refl _) (keep_cell hb3 (Nat.le_refl _) (show w2.drew.cell? ⟨gB, 0, none⟩ = some (.int .i64 p) from c0)))))
  have k1 : w7.cell? ⟨gB, 1, none⟩ = some (.slice go k gc) := keep_cell hb7 (Nat.le_refl _) (keep_cell hb6 (Nat.le_refl _) (keep_cell hb5 (Nat.le_refl _) (keep_cell hb4 (Nat.le_refl _) (keep_cell hb3 (Nat.le_refl _) (show w2.drew.cell? ⟨gB, 1, none⟩ = some (.slice go k gc) from c1)))))
  clear hAd hrd hdd hW3 hw3 hd3 hr3 hA3 hd4 hr4 hA4 hR5 hx5 hd5 hr5 hA5 hS6 hs6 hx6 hd6 hr6 hA6 hb3 hb4 hb5 hb6 hb7 c0 c1
  go_wp2_with fail
  refine (drawLength_any ao n cap hn' _ (hr.up hA7)).mono ?_
  rintro e w8 ⟨p2, go2, k2, gc2, pg, m2, pc, rfl, hk2, hm2, ⟨F2, T2, G2, hrow8, _⟩, ⟨⟨fP, hP8⟩, hmpc⟩, hb8⟩
  have hal8 := ((Below.refl w8.heap.size w8).alloc (Nat.le_refl _) (.cells #[.int .i64 p2, .slice go2 k2 gc2] 26)).drew
  have hA9 := below_next (below_next hA7 (Nat.le_refl _) hb8) (Nat.le_refl _) hal8
  have hr9 := (hr7.below hb8 (Nat.le_refl _)).below hal8 (Nat.le_refl _)
  have hd9 := (hd7.below hb8 (Nat.le_refl _)).below hal8 (Nat.le_refl _)
  have hq9 := hrow8.below hal8 (Nat.le_refl _)
  have hP9 := hP8.below hal8 (Nat.le_refl _)
  have k09 := keep_cell hal8 (Nat.le_refl _) (keep_cell hb8 (Nat.le_refl _) k0)
  have k19 := keep_cell hal8 (Nat.le_refl _) (keep_cell hb8 (Nat.le_refl _) k1)
  clear hA7 hr7 hd7 hrow8 hP8 k0 k1 hb8 hal8
  have hk2' : k2 ≤ 1048576 := by omega
  have hm2' : m2 ≤ 1048576 := by omega
  go_wp2_with fail
  go_region_held3 (fun w' => w'.cell? ⟨w8.heap.size, 0, none⟩ = some (.int .i64 p2) ∧ w'.cell? ⟨w8.heap.size, 1, none⟩ = some (.slice go2 k2 gc2))
    (first | (go_split_ands; refine ⟨?_, ?_⟩ <;> first | exact keep_cell hb11 (Nat.le_refl _) (by assumption) | exact keep_cell hb10 (Nat.le_refl _) (by assumption)) | (simp [go_sem]; done) | go_keep)
    (first | (go_at_call 22; refine (implLength_any p2 go2 k2 gc2 F2 T2 G2 _ m2 pc fP hk2' hm2' hmpc _ hq9 hP9).mono ?_; rintro e w10 ⟨rfl, hb10⟩; have hq10 := hq9.below hb10 (Nat.le_refl _); have hP10 := hP9.below hb10 (Nat.le_refl _))
            | (go_at_call 23; refine (specLength_any p2 go2 k2 gc2 F2 T2 G2 _ m2 pc fP hk2' hm2' _ hq10 hP10).mono ?_; rintro e w11 ⟨rfl, hb11⟩))
  have hA11 := below_next (below_next hA9 (Nat.le_refl _) hb10) (Nat.le_refl _) hb11
  have hr11 := (hr9.below hb10 (Nat.le_refl _)).below hb11 (Nat.le_refl _)
  have hd11 := (hd9.below hb10 (Nat.le_refl _)).below hb11 (Nat.le_refl _)
  have g0 := keep_cell hb11 (Nat.le_refl _) (keep_cell hb10 (Nat.le_refl _) k09)
  have g1 := keep_cell hb11 (Nat.le_refl _) (keep_cell hb10 (Nat.le_refl _) k19)
  clear hA9 hr9 hd9 hq9 hP9 k09 k19 hb10 hb11 hq10 hP10
  by_cases h0 : m = 0
  · subst h0
    go_wp2_with (go_at_call 19; refine (HIR.out _ hr11).mono ?_; rintro e w12 ⟨aoR, capR, rfl, _, hb12⟩)
    go_ret
    exact ⟨rfl, below_next hA11 (Nat.le_refl _) hb12⟩
  have hok : okD p k F T G s = true := by
    have := HM.out
    unfold lenD at this
    cases hx : okD p k F T G s
    · rw [hx] at this
      exact absurd this.symm h0
    · rfl
  have hS := HSOL.out hok
  have h12 : graphB p k F T G = true ∧ inB s 0 (p - 1) = true := by simpa [okD] using hok
  have hpp : 1 ≤ p ∧ p ≤ 24 := by simpa [inB] using graphB_p h12.1
  have hss : 0 ≤ s ∧ s ≤ p - 1 := by simpa [inB] using h12.2
  obtain ⟨pn, rfl⟩ : ∃ pn : Nat, p = (pn : Int) := ⟨p.toNat, by omega⟩
  obtain ⟨sn, rfl⟩ : ∃ sn : Nat, s = (sn : Int) := ⟨s.toNat, by omega⟩
  have hmp : m = pn := by
    have := HM.out
    unfold lenD at this
    rw [hok] at this
    simpa using this.symm
  subst hmp
  simp only [Int.toNat_natCast] at hS
  have hAr := arcs_of (graphB_arcs h12.1).2
  have HS : Hid (Sol m k F T G sn D ∧ Arcs m k F T G) := ⟨hS, hAr⟩
  have hGB : Hid (graphB (m : Int) k F T G = true) := h12.1
  clear HM HSOL hok hS h12 hAr HID HSD HSR HIR h0
  have hd0 := hd11 0 (by omega)
  obtain ⟨bD, oD, haoD, _⟩ := hd0
  subst haoD
  have hcD : ∀ W, Below w11.heap.size w11 W → ∀ j, j < m → W.cell? ⟨bD, oD + j, none⟩ = some (.int .i64 (D j)) := fun W hb j hj => by
    obtain ⟨b, o, e, hc⟩ := (hd11.below hb (Nat.le_refl _)) j hj
    cases e
    exact hc
  have hk100 : k ≤ 1048576 := hk'
  have hm0 : ((m : Int) == 0) = false := by
    rw [beq_eq_false_iff_ne]
    omega
  go_wp2_with fail
  try rw [hm0]
  clear hm0
  go_loopw [8] (fun x wr => ∃ i : Nat, i ≤ m ∧ x = .int .i64 i ∧ Below w11.heap.size w11 wr) (fun x _ => m - (intOf x).toNat)
  case atStart => exact ⟨0, Nat.zero_le _, rfl, Below.refl _ _⟩
  case round =>
    obtain ⟨i, hi, rfl, hbel⟩ := hrel
    have b0 := keep_cell hbel (Nat.le_refl _) g0
    have b1 := keep_cell hbel (Nat.le_refl _) g1
    by_cases hlt : i < m
    rotate_left
    · have him : ¬ (i : Int) < (m : Int) := by omega
      have hz := hcD wr hbel sn (by omega)
      rw [HS.out.1.zero] at hz
      have hsm : (sn : Int) < (m : Int) := by omega
      have hal := (Below.refl wr.heap.size wr).alloc (Nat.le_refl _) (.cells #[.int .i64 (sn : Int)] 2)
      have hrw := (hr11.below hbel (Nat.le_refl _)).below hal (Nat.le_refl _)
      have hpath : IRow (wr.alloc (.cells #[.int .i64 (sn : Int)] 2)) (some ⟨wr.heap.size, 0, none⟩) 1 (fun _ => (sn : Int)) := fun q hq => ⟨wr.heap.size, 0, rfl, by
        have : q = 0 := by omega
        subst this
        simp [go_sem]⟩
      have hlen : lenOf (m : Int) k F T G 1 (fun _ => (sn : Int)) = 0 := by
        unfold lenOf
        rw [if_pos ⟨hGB.out, by omega, by omega, by simp [allIn, inB]; omega⟩]
        rfl
      have hcall := implLength_any (m : Int) go k gc F T G (some ⟨wr.heap.size, 0, none⟩) 1 1 (fun _ => (sn : Int)) hk100 (by omega) (by omega) _ hrw hpath
      rw [hlen] at hcall
      go_wp2_with (go_at_call 22; refine hcall.mono ?_; rintro e w13 ⟨rfl, hb13⟩)
      go_ret
      exact ⟨rfl, below_next (below_next (below_next hA11 (Nat.le_refl _) hbel) (Nat.le_refl _) hal) (Nat.le_refl _) hb13⟩
    have hlt' : (i : Int) < (m : Int) := by omega
    have hdi := hcD wr hbel i hlt
    by_cases his : sn = i
    rotate_left
    · have his' : ¬ (i : Int) = (sn : Int) := by omega
      have hst : Hid (smB F T G D (sn : Int) (i : Int) 0 = ((i : Int) == (sn : Int) || D i == 1000000000000)) := by
        show ((i : Int) == (sn : Int) || D ((i : Nat) : Int).toNat == 1000000000000) = _
        rw [Int.toNat_natCast]
      go_wp2_with fail
      go_loopw [9, 10] (fun a b wr2 => ∃ j : Nat, j ≤ k ∧ a = .bool (smB F T G D (sn : Int) (i : Int) j) ∧ b = .int .i64 j ∧ Below w11.heap.size w11 wr2) (fun _ b _ => k - (intOf b).toNat)
      case atStart => exact ⟨0, Nat.zero_le _, by rw [hst.out], rfl, hbel⟩
      case round =>
        clear hbel b0 b1 hdi
        obtain ⟨j, hj, rfl, rfl, hbel⟩ := hrel
        have b0 := keep_cell hbel (Nat.le_refl _) g0
        have b1 := keep_cell hbel (Nat.le_refl _) g1
        by_cases hjk : j < k
        rotate_left
        · have hjk' : j = k := by omega
          subst hjk'
          have hall : smB F T G D (sn : Int) (i : Int) j = true := smB_all HS.out.2 HS.out.1 hlt
          rw [hall]
          go_wp2
          go_roundw
          case rel => exact ⟨i + 1, by omega, by go_num, hbel⟩
          case measure => simp [intOf]; omega
        have hjk' : (j : Int) < (k : Int) := by omega
        obtain ⟨ab, aoff, hao, e0, e1, e2⟩ := (hr11.below hbel (Nat.le_refl _)) j hjk
        subst hao
        have harc := HS.out.2 j hjk
        have hfix := HS.out.1.fix j hjk
        have hdlo := HS.out.1.lo
        have hdhi := HS.out.1.hi
        obtain ⟨f, hf⟩ : ∃ f : Nat, F j = (f : Int) := ⟨(F j).toNat, by omega⟩
        obtain ⟨q, hq⟩ : ∃ q : Nat, T j = (q : Int) := ⟨(T j).toNat, by omega⟩
        have hsucc : Hid (smB F T G D (sn : Int) (i : Int) (j + 1) = if q = i ∧ D f ≠ 1000000000000 then (smB F T G D (sn : Int) (i : Int) j || D i == D f + G j) else smB F T G D (sn : Int) (i : Int) j) := by
          show (if T j = (i : Int) ∧ D (F j).toNat ≠ 1000000000000 then (smB F T G D (sn : Int) (i : Int) j || D ((i : Nat) : Int).toNat == D (F j).toNat + G j) else smB F T G D (sn : Int) (i : Int) j) = _
          rw [hf, hq]
          simp only [Int.toNat_natCast]
          congr 1
          simp only [eq_iff_iff]
          constructor
          · rintro ⟨h1, h2⟩
            exact ⟨by omega, h2⟩
          · rintro ⟨h1, h2⟩
            exact ⟨by omega, h2⟩
        rw [hf, hq] at hfix harc
        rw [hf] at e0
        rw [hq] at e1
        simp only [Int.toNat_natCast] at hfix
        have hfm : f < m := by omega
        have hfm' : (f : Int) < (m : Int) := by omega
        have hdi := hcD wr hbel i hlt
        have hdf := hcD wr hbel f hfm
        have hDi := hdhi i hlt
        have hDf := hdlo f hfm
        have hDf2 := hdhi f hfm
        have hDi0 := hdlo i hlt
        have hg1 : 1 ≤ G j := harc.2.2.2.2.2.1
        have hg2 : G j ≤ 1000000 := harc.2.2.2.2.2.2
        have hal := (Below.refl wr.heap.size wr).alloc (Nat.le_refl _) (.cells #[.int .i64 (f : Int), .int .i64 (q : Int), .int .i64 (G j)] 36)
        have hbel2 := below_next hbel (Nat.le_refl _) hal
        have hlD := lt_of_cell hdi
        clear hf hq harc hdlo hdhi
        by_cases hqi : q = i
        rotate_left
        · have hqi' : ¬ (q : Int) = (i : Int) := by omega
          have hx : smB F T G D (sn : Int) (i : Int) (j + 1) = smB F T G D (sn : Int) (i : Int) j := by rw [hsucc.out, if_neg (fun h => hqi h.1)]
          have HX : Hid (smB F T G D (sn : Int) (i : Int) (j + 1) = smB F T G D (sn : Int) (i : Int) j) := hx
          clear hx hfix
          go_wp2
          go_roundw
          case rel => exact ⟨j + 1, by omega, by rw [HX.out], by go_num, hbel2⟩
          case measure => simp [intOf]; omega
        subst hqi
        by_cases hfar : D f = 1000000000000
        · have hx : smB F T G D (sn : Int) (q : Int) (j + 1) = smB F T G D (sn : Int) (q : Int) j := by rw [hsucc.out, if_neg (fun h => h.2 hfar)]
          have HX : Hid (smB F T G D (sn : Int) (q : Int) (j + 1) = smB F T G D (sn : Int) (q : Int) j) := hx
          clear hx hfix
          rw [hfar] at hdf
          go_wp2
          go_roundw
          case rel => exact ⟨j + 1, by omega, by rw [HX.out], by go_num, hbel2⟩
          case measure => simp [intOf]; omega
        have hx : smB F T G D (sn : Int) (q : Int) (j + 1) = (smB F T G D (sn : Int) (q : Int) j || D q == D f + G j) := by rw [hsucc.out, if_pos ⟨rfl, hfar⟩]
        have HX : Hid (smB F T G D (sn : Int) (q : Int) (j + 1) = (smB F T G D (sn : Int) (q : Int) j || D q == D f + G j)) := hx
        have hle : ¬ D f + G j < D q := by omega
        clear hx hsucc
        cases hsmj : smB F T G D (sn : Int) (q : Int) j
        all_goals
          go_wp2
          go_quiet (fail)
          go_wp2
          go_quiet (fail)
          go_wp2
          go_roundw
          case rel => exact ⟨j + 1, by omega, by rw [HX.out, hsmj]; simp, by go_num, below_drewN hbel2 _⟩
          case measure => simp [intOf]; omega
    subst his
    have hst : Hid (smB F T G D (sn : Int) (sn : Int) 0 = true) := by
      show ((sn : Int) == (sn : Int) || D ((sn : Nat) : Int).toNat == 1000000000000) = true
      simp
    go_wp2_with fail
    go_loopw [9, 10] (fun a b wr2 => ∃ j : Nat, j ≤ k ∧ a = .bool (smB F T G D (sn : Int) (sn : Int) j) ∧ b = .int .i64 j ∧ Below w11.heap.size w11 wr2) (fun _ b _ => k - (intOf b).toNat)
    case atStart => exact ⟨0, Nat.zero_le _, by rw [hst.out], rfl, hbel⟩
    case round =>
      clear hbel b0 b1 hdi
      obtain ⟨j, hj, rfl, rfl, hbel⟩ := hrel
      have b0 := keep_cell hbel (Nat.le_refl _) g0
      have b1 := keep_cell hbel (Nat.le_refl _) g1
      by_cases hjk : j < k
      rotate_left
      · have hjk' : j = k := by omega
        subst hjk'
        have hall : smB F T G D (sn : Int) (sn : Int) j = true := smB_all HS.out.2 HS.out.1 hlt
        rw [hall]
        go_wp2
        go_roundw
        case rel => exact ⟨sn + 1, by omega, by go_num, hbel⟩
        case measure => simp [intOf]; omega
      have hjk' : (j : Int) < (k : Int) := by omega
      obtain ⟨ab, aoff, hao, e0, e1, e2⟩ := (hr11.below hbel (Nat.le_refl _)) j hjk
      subst hao
      have harc := HS.out.2 j hjk
      have hfix := HS.out.1.fix j hjk
      have hdlo := HS.out.1.lo
      have hdhi := HS.out.1.hi
      obtain ⟨f, hf⟩ : ∃ f : Nat, F j = (f : Int) := ⟨(F j).toNat, by omega⟩
      obtain ⟨q, hq⟩ : ∃ q : Nat, T j = (q : Int) := ⟨(T j).toNat, by omega⟩
      have hsucc : Hid (smB F T G D (sn : Int) (sn : Int) (j + 1) = if q = sn ∧ D f ≠ 1000000000000 then (smB F T G D (sn : Int) (sn : Int) j || D sn == D f + G j) else smB F T G D (sn : Int) (sn : Int) j) := by
        show (if T j = (sn : Int) ∧ D (F j).toNat ≠ 1000000000000 then (smB F T G D (sn : Int) (sn : Int) j || D ((sn : Nat) : Int).toNat == D (F j).toNat + G j) else smB F T G D (sn : Int) (sn : Int) j) = _
        rw [hf, hq]
        simp only [Int.toNat_natCast]
        congr 1
        simp only [eq_iff_iff]
        constructor
        · rintro ⟨h1, h2⟩
          exact ⟨by omega, h2⟩
        · rintro ⟨h1, h2⟩
          exact ⟨by omega, h2⟩
      rw [hf, hq] at hfix harc
      rw [hf] at e0
      rw [hq] at e1
      simp only [Int.toNat_natCast] at hfix
      have hfm : f < m := by omega
      have hfm' : (f : Int) < (m : Int) := by omega
      have hdi := hcD wr hbel sn hlt
      have hdf := hcD wr hbel f hfm
      have hDi := hdhi sn hlt
      have hDf := hdlo f hfm
      have hDf2 := hdhi f hfm
      have hDi0 := hdlo sn hlt
      have hg1 : 1 ≤ G j := harc.2.2.2.2.2.1
      have hg2 : G j ≤ 1000000 := harc.2.2.2.2.2.2
      have hal := (Below.refl wr.heap.size wr).alloc (Nat.le_refl _) (.cells #[.int .i64 (f : Int), .int .i64 (q : Int), .int .i64 (G j)] 36)
      have hbel2 := below_next hbel (Nat.le_refl _) hal
      have hlD := lt_of_cell hdi
      clear hf hq harc hdlo hdhi
      by_cases hqi : q = sn
      rotate_left
      · have hqi' : ¬ (q : Int) = (sn : Int) := by omega
        have hx : smB F T G D (sn : Int) (sn : Int) (j + 1) = smB F T G D (sn : Int) (sn : Int) j := by rw [hsucc.out, if_neg (fun h => hqi h.1)]
        have HX : Hid (smB F T G D (sn : Int) (sn : Int) (j + 1) = smB F T G D (sn : Int) (sn : Int) j) := hx
        clear hx hfix
        go_wp2
        go_roundw
        case rel => exact ⟨j + 1, by omega, by rw [HX.out], by go_num, hbel2⟩
        case measure => simp [intOf]; omega
      have hqi2 := hqi.symm
      subst hqi2
      by_cases hfar : D f = 1000000000000
      · have hx : smB F T G D (sn : Int) (sn : Int) (j + 1) = smB F T G D (sn : Int) (sn : Int) j := by rw [hsucc.out, if_neg (fun h => h.2 hfar)]
        have HX : Hid (smB F T G D (sn : Int) (sn : Int) (j + 1) = smB F T G D (sn : Int) (sn : Int) j) := hx
        clear hx hfix
        rw [hfar] at hdf
        go_wp2
        go_roundw
        case rel => exact ⟨j + 1, by omega, by rw [HX.out], by go_num, hbel2⟩
        case measure => simp [intOf]; omega
      have hx : smB F T G D (sn : Int) (sn : Int) (j + 1) = (smB F T G D (sn : Int) (sn : Int) j || D sn == D f + G j) := by rw [hsucc.out, if_pos ⟨rfl, hfar⟩]
      have HX : Hid (smB F T G D (sn : Int) (sn : Int) (j + 1) = (smB F T G D (sn : Int) (sn : Int) j || D sn == D f + G j)) := hx
      have hle : ¬ D f + G j < D sn := by omega
      clear hx hsucc
      cases hsmj : smB F T G D (sn : Int) (sn : Int) j
      all_goals
        go_wp2
        go_quiet (fail)
        go_wp2
        go_quiet (fail)
        go_wp2
        go_roundw
        case rel => exact ⟨j + 1, by omega, by rw [HX.out, hsmj]; simp, by go_num, below_drewN hbel2 _⟩
        case measure => simp [intOf]; omega

set_option maxRecDepth 100000 in
theorem lawFnDist_lifted (os : Os) (started : os.Started) (H : Type) (enc : TypeId × Value → H) :
    ReturnsInHanded {} Try.checked os 4 .any (Rows.fnDistancesSpec.pre6 enc Try.prog Try.f4 Rows.fnDistancesRow.domain false) (Rows.fnDistancesSpec.post enc Try.prog Try.f4 false true false false) := by
  refine returnsInHanded_of_change (C := Try.checked) Try.own started (by kernel_rfl) Try.func4
    (ChangeSpec.witness6 (enc := enc) (C := Try.checked) false ⟨#[], #[.slice none 0 0], []⟩ 8 (by kernel_rfl) (by kernel_rfl) (by kernel_rfl) (by kernel_rfl)) ?_
  intro W base args ds gs before hval0 hW hcnd _
  have hval : ∀ (j : Nat) t v, Try.f4.params[j]? = some t → args[j]? = some v → Value.okWide Try.prog W .any base t v := hval0
  have hW' := hW
  obtain ⟨p, q, hA0, hV, rfl, hfz, hnd⟩ := hW
  have hA : DataW.TrodAll enc Try.prog W 0 (fun _ => true) true Try.f4.params.toList args.toList ds p := hA0
  rw [Try.params4] at hA hval
  obtain ⟨v1, vs1, d1, ds1, p1, q1, hargs, rfl, rfl, h1, r1⟩ := trodAll_cons hA
  obtain ⟨rfl, rfl, rfl⟩ := trodAll_nil r1
  obtain rfl : args = #[v1] := by cases args; simp_all
  obtain ⟨rfl, rfl⟩ := trodVars_none hV
  have k1 := h1
  have lt1 : ∀ x ∈ p1, x.block < W.heap.size := by obtain ⟨m, hm⟩ := k1; exact DataW.trod_lt m _ _ _ hm
  obtain ⟨b1, l1, c1', rfl⟩ := okWide_slice Try.underlying22 (hval 0 22 v1 rfl rfl)
  obtain ⟨f1, hf1⟩ := h1
  obtain ⟨ao2, m2, cap2, e2, hm2, hr2⟩ := open_bytes hf1
  simp [Value.cells] at e2
  obtain ⟨rfl, rfl, rfl⟩ := e2
  clear hA0 hval0
  refine (lawFnDist_walk b1 l1 c1' hm2 W hr2).mono fun e W' ⟨he, bel⟩ => ?_
  subst he
  exact ⟨_, rfl, _, _, _, [], _, [], hW', trodAll_mk1 (shut_bool Try.underlying4 _), (trodAll_cons_mk (Below.trod Try.laidOut (by kernel_rfl) (of_decide_eq_true (by kernel_rfl)) k1 bel lt1) trodAll_mk0), rfl, bel.frame _, fun h => by cases h⟩

theorem fnDistances_holds : Rows.FnDistancesSaid :=
  OpenClaim.holds_of_wide 4 Try.f4 rfl rfl rfl rfl rfl rfl rfl ⟨rfl, rfl, rfl, rfl, rfl⟩ rfl rfl rfl rfl rfl (by kernel_rfl) Try.func4 (by kernel_rfl)
    (of_decide_eq_true (by kernel_rfl)) (by unfold Func.isWrapper; first | (rw [if_pos (by decide +kernel)]; kernel_rfl) | (rw [if_neg (by decide +kernel)]; exact ⟨rfl, rfl⟩))
    (fun os started H enc _ => lawFnDist_lifted os started H enc)
#print axioms fnDistances_holds

end Go.Proofs.Ytkmkkdjacdcojaa
