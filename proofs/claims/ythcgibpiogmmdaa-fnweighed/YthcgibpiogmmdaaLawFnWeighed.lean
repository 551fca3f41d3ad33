/-
  Proved: at every list of bytes the law FnWeighed answers true, and its argument reads behind the call as it read before. No condition.
-/
import Derived.Test.YthcgibpiogmmdaaDrawWo
import Derived.Test.YthcgibpiogmmdaaRwP
import Derived.Test.YthcgibpiogmmdaaRwImpl
import Derived.Test.YthcgibpiogmmdaaRwSpec
import Derived.Test.YthcgibpiogmmdaaWeighImpl
import Derived.Test.YthcgibpiogmmdaaWeighSpec
import Derived.Test.YthcgibpiogmmdaaLikeG
import Derived.Test.YthcgibpiogmmdaaFnBig
import Derived.Deep.RegionHeld3
set_option linter.unusedVariables false
set_option linter.unusedSimpArgs false
namespace Go.Proofs.Ythcgibpiogmmdaa
open Go.ChangeShapes Go.WideShapes Go.ChangeAt Go.RowKit Go.Deep Go.Joins
attribute [local go_sem ↓] Go.wp_at_zero Go.wp_at_succ

theorem res_exW (r : Option (Nat → Int)) (p : Int) (n : Nat) : ∃ p' n' H ok, IsRes r p n p' n' H ok ∧ n' ≤ n := by
  cases r with
  | none => exact ⟨0, 0, fun _ => 0, false, Or.inr ⟨rfl, rfl, rfl, rfl⟩, Nat.zero_le _⟩
  | some H => exact ⟨p, n, H, true, Or.inl ⟨rfl, rfl, rfl, rfl⟩, Nat.le_refl _⟩

set_option maxRecDepth 100000 in
set_option maxHeartbeats 16000000 in
theorem lawFnWeighed_walk (ao : Option Addr) (n cap : Nat) (hn : n ≤ maxLen) (w : World) (hr : ByRow w w.heap.size ao n) :
    Calls Try.prog 3 #[.slice ao n cap] w fun e w' => e = .returned (.bool true) ∧ Below w.heap.size w w' := by
  unfold maxLen at hn
  by_cases hbig : 4096 < n
  · have hd : decide (4096 < n) = true := by simp [hbig]
    go_enter Try.func3, Try.ntmps3
    go_wp2_with (go_at_call 7; refine (big_any ao n cap (by omega) _).mono ?_; rintro e wq ⟨rfl, rfl⟩)
    go_ret
    exact ⟨rfl, Below.refl _ _⟩
  have hd : decide (4096 < n) = false := by simp [hbig]
  have hn' : n ≤ 4096 := by omega
  go_enter Try.func3, Try.ntmps3
  go_wp2_with fail
  refine (big_any ao n cap (by omega) _).mono ?_
  rintro e wq ⟨rfl, hq⟩
  have hq' := hq.symm
  subst hq'
  clear hq
  rw [hd]
  clear hd
  go_wp2_with fail
  refine (drawReweigh_any ao n cap hn' _ hr).mono ?_
  rintro e w1 ⟨p, go, k, gc, xo, m, xc, rfl, hk, hm, hO1, hX1, hb1⟩
  obtain ⟨F, T, G, hrow1, hwf⟩ := hO1.wft
  obtain ⟨A, B, C, hl1, hwfA⟩ := hX1.wft
  clear hO1 hX1
  have hal1 := (Below.refl w1.heap.size w1).alloc (Nat.le_refl _) (.cells #[.int .i64 p, .slice go k gc] 26)
  have hA1 := below_next hb1 (Nat.le_refl _) hal1
  have hrw1 := hrow1.below hal1 (Nat.le_refl _)
  have hll1 := hl1.below hal1 (Nat.le_refl _)
  have hk' : k ≤ 1048576 := by omega
  have hm' : m ≤ 1048576 := by omega
  obtain ⟨p', n', H', ok, hres, hn1⟩ := res_exW (resOf p k F T G m A B C) p k
  have hn1' : n' ≤ 1048576 := by omega
  have HIR : Hid (∀ W, Row W go k F T G → Row W xo m A B C → Calls Try.prog 9 #[.agg #[.int .i64 p, .slice go k gc], .slice xo m xc] W fun e w' => ∃ ao' cap', e = .returned (.tuple #[.agg #[.int .i64 p', .slice ao' n' cap'], .bool ok]) ∧ OwnS w' W.heap.size ao' n' (ar F T H') ∧ Below W.heap.size W w') := fun W h1 h2 => implReweigh_any p go k gc F T G xo m xc A B C hk' hm' hwfA W h1 h2 p' n' H' ok hres
  have HSR : Hid (∀ W, Row W go k F T G → Row W xo m A B C → Calls Try.prog 10 #[.agg #[.int .i64 p, .slice go k gc], .slice xo m xc] W fun e w' => ∃ ao' cap', e = .returned (.tuple #[.agg #[.int .i64 p', .slice ao' n' cap'], .bool ok]) ∧ OwnS w' W.heap.size ao' n' (ar F T H') ∧ Below W.heap.size W w') := fun W h1 h2 => specReweigh_own p go k gc F T G xo m xc A B C hk' hm' W h1 h2 p' n' H' ok hres
  have HRES : Hid (IsRes (resOf p k F T G m A B C) p k p' n' H' ok) := hres
  have HWF : Hid (WfTo F T k) := hwf
  clear hres hrow1 hl1 hal1 hb1 hwf hwfA
  have g0 : (w1.alloc (.cells #[.int .i64 p, .slice go k gc] 26)).cell? ⟨w1.heap.size, 0, none⟩ = some (.int .i64 p) := by simp [go_sem]
  have g1 : (w1.alloc (.cells #[.int .i64 p, .slice go k gc] 26)).cell? ⟨w1.heap.size, 1, none⟩ = some (.slice go k gc) := by simp [go_sem]
  go_wp2_with fail
  generalize (w1.alloc (.cells #[.int .i64 p, .slice go k gc] 26)) = W1 at hA1 hrw1 hll1 g0 g1 ⊢
  generalize w1.heap.size = gB at g0 g1 ⊢
  refine (HIR.out _ hrw1 hll1).mono ?_
  rintro e w2 ⟨aoX, capX, rfl, hX2, hb2⟩
  have hal2 := (Below.refl w2.heap.size w2).alloc (Nat.le_refl _) (.cells #[.int .i64 p', .slice aoX n' capX] 26)
  have hB2 := below_next hb2 (Nat.le_refl _) hal2
  have hA2 := below_next hA1 (Nat.le_refl _) hB2
  have hrw2 := hrw1.below hB2 (Nat.le_refl _)
  have hll2 := hll1.below hB2 (Nat.le_refl _)
  have hx2 := hX2.row.below hal2 (Nat.le_refl _)
  have a0 := keep_cell hB2 (Nat.le_refl _) g0
  have a1 := keep_cell hB2 (Nat.le_refl _) g1
  have x0 : (w2.alloc (.cells #[.int .i64 p', .slice aoX n' capX] 26)).cell? ⟨w2.heap.size, 0, none⟩ = some (.int .i64 p') := by simp [go_sem]
  have x1 : (w2.alloc (.cells #[.int .i64 p', .slice aoX n' capX] 26)).cell? ⟨w2.heap.size, 1, none⟩ = some (.slice aoX n' capX) := by simp [go_sem]
  clear hX2 hb2 hal2 hB2 hA1 hrw1 hll1 g0 g1
  go_wp2_with fail
  generalize (w2.alloc (.cells #[.int .i64 p', .slice aoX n' capX] 26)) = W2 at hA2 hrw2 hll2 hx2 a0 a1 x0 x1 ⊢
  generalize w2.heap.size = xB at x0 x1 ⊢
  refine (HSR.out _ hrw2 hll2).mono ?_
  rintro e w3 ⟨aoY, capY, rfl, hY3, hb3⟩
  have hal3 := (Below.refl w3.heap.size w3).alloc (Nat.le_refl _) (.cells #[.int .i64 p', .slice aoY n' capY] 26)
  have hB3 := below_next hb3 (Nat.le_refl _) hal3
  have hA3 := below_next hA2 (Nat.le_refl _) hB3
  have hrw3 := hrw2.below hB3 (Nat.le_refl _)
  have hll3 := hll2.below hB3 (Nat.le_refl _)
  have hx3 := hx2.below hB3 (Nat.le_refl _)
  have hy3 := hY3.row.below hal3 (Nat.le_refl _)
  have d0 := keep_cell hB3 (Nat.le_refl _) a0
  have d1 := keep_cell hB3 (Nat.le_refl _) a1
  have e0 := keep_cell hB3 (Nat.le_refl _) x0
  have e1 := keep_cell hB3 (Nat.le_refl _) x1
  have y0 : (w3.alloc (.cells #[.int .i64 p', .slice aoY n' capY] 26)).cell? ⟨w3.heap.size, 0, none⟩ = some (.int .i64 p') := by simp [go_sem]
  have y1 : (w3.alloc (.cells #[.int .i64 p', .slice aoY n' capY] 26)).cell? ⟨w3.heap.size, 1, none⟩ = some (.slice aoY n' capY) := by simp [go_sem]
  clear hY3 hb3 hal3 hB3 hA2 hrw2 hll2 hx2 a0 a1 x0 x1 HIR HSR
  have hbb : (ok != ok) = false := by simp
  go_wp2_with fail
  generalize (w3.alloc (.cells #[.int .i64 p', .slice aoY n' capY] 26)) = W3 at hA3 hrw3 hll3 hx3 hy3 d0 d1 e0 e1 y0 y1 ⊢
  generalize w3.heap.size = yB at y0 y1 ⊢
  refine (likeGraph_same p' aoX aoY n' capX capY F T H' hn1' _ hx3 hy3).mono ?_
  rintro e w4 ⟨rfl, hb4⟩
  have hA4 := below_next hA3 (Nat.le_refl _) hb4
  have hrw4 := hrw3.below hb4 (Nat.le_refl _)
  have hll4 := hll3.below hb4 (Nat.le_refl _)
  have hx4 := hx3.below hb4 (Nat.le_refl _)
  replace d0 := keep_cell hb4 (Nat.le_refl _) d0
  replace d1 := keep_cell hb4 (Nat.le_refl _) d1
  replace e0 := keep_cell hb4 (Nat.le_refl _) e0
  replace e1 := keep_cell hb4 (Nat.le_refl _) e1
  clear hb4 hA3 hrw3 hll3 hx3 hy3 y0 y1
  go_wp2_with fail
  refine (drawWeightOf_any ao n cap hn' _ (hr.up hA4)).mono ?_
  rintro e w5 ⟨p2, go2, k2, gc2, a, b, rfl, hk2, haw, hbw, hO5, hb5⟩
  obtain ⟨F2, T2, G2, hrow5, _⟩ := hO5.wft
  have hal5 := (Below.refl w5.heap.size w5).alloc (Nat.le_refl _) (.cells #[.int .i64 p2, .slice go2 k2 gc2] 26)
  have hB5 := below_next hb5 (Nat.le_refl _) hal5
  have hA5 := below_next hA4 (Nat.le_refl _) hB5
  have hrw5 := hrw4.below hB5 (Nat.le_refl _)
  have hll5 := hll4.below hB5 (Nat.le_refl _)
  have hx5 := hx4.below hB5 (Nat.le_refl _)
  have hq5 := hrow5.below hal5 (Nat.le_refl _)
  replace d0 := keep_cell hB5 (Nat.le_refl _) d0
  replace d1 := keep_cell hB5 (Nat.le_refl _) d1
  replace e0 := keep_cell hB5 (Nat.le_refl _) e0
  replace e1 := keep_cell hB5 (Nat.le_refl _) e1
  have h0 : (w5.alloc (.cells #[.int .i64 p2, .slice go2 k2 gc2] 26)).cell? ⟨w5.heap.size, 0, none⟩ = some (.int .i64 p2) := by simp [go_sem]
  have h1 : (w5.alloc (.cells #[.int .i64 p2, .slice go2 k2 gc2] 26)).cell? ⟨w5.heap.size, 1, none⟩ = some (.slice go2 k2 gc2) := by simp [go_sem]
  have hk2' : k2 ≤ 1048576 := by omega
  obtain ⟨v2, hv2⟩ : ∃ v2, wOf p2 k2 F2 T2 G2 a b = v2 := ⟨_, rfl⟩
  have hiw := fun W h => implWeightOf_any p2 go2 k2 gc2 F2 T2 G2 a b haw hbw hk2' W h
  have hsw := fun W h => specWeightOf_any p2 go2 k2 gc2 F2 T2 G2 a b hk2' W h
  rw [hv2] at hiw hsw
  have HIW : Hid (∀ W, Row W go2 k2 F2 T2 G2 → Calls Try.prog 13 #[.agg #[.int .i64 p2, .slice go2 k2 gc2], .int .i64 a, .int .i64 b] W fun e w' => e = .returned (.int .i64 v2) ∧ Below W.heap.size W w') := hiw
  have HSW : Hid (∀ W, Row W go2 k2 F2 T2 G2 → Calls Try.prog 14 #[.agg #[.int .i64 p2, .slice go2 k2 gc2], .int .i64 a, .int .i64 b] W fun e w' => e = .returned (.int .i64 v2) ∧ Below W.heap.size W w') := hsw
  clear hiw hsw hv2 hO5 hrow5 hal5 hb5 hB5 hA4 hrw4 hll4 hx4 haw hbw
  go_wp2_with fail
  generalize (w5.alloc (.cells #[.int .i64 p2, .slice go2 k2 gc2] 26)) = w6 at hA5 hrw5 hll5 hx5 hq5 d0 d1 e0 e1 h0 h1 ⊢
  generalize w5.heap.size = hB at h0 h1 ⊢
  have hqd := hq5.below (Below.refl w6.heap.size w6).drew (Nat.le_refl _)
  go_region_held3 (fun w' => w'.cell? ⟨hB, 0, none⟩ = some (.int .i64 p2) ∧ w'.cell? ⟨hB, 1, none⟩ = some (.slice go2 k2 gc2))
    (first | (go_split_ands; refine ⟨?_, ?_⟩ <;> first | exact keep_cell hb8 (Nat.le_refl _) (by assumption) | exact keep_cell hb7 (Nat.le_refl _) (by assumption)) | go_keep)
    (first | (go_at_call 13; refine (HIW.out _ hqd).mono ?_; rintro e w7 ⟨rfl, hb7⟩; have hq7 := hqd.below hb7 (Nat.le_refl _))
            | (go_at_call 14; refine (HSW.out _ hq7).mono ?_; rintro e w8 ⟨rfl, hb8⟩))
  have hBa := below_next (below_next (Below.refl w6.heap.size w6).drew (Nat.le_refl _) hb7) (Nat.le_refl _) hb8
  have hA8 := below_next hA5 (Nat.le_refl _) hBa
  have hrw8 := hrw5.below hBa (Nat.le_refl _)
  have hll8 := hll5.below hBa (Nat.le_refl _)
  have hx8 := hx5.below hBa (Nat.le_refl _)
  have c0 := keep_cell hBa (Nat.le_refl _) d0
  have c1 := keep_cell hBa (Nat.le_refl _) d1
  have z0 := keep_cell hBa (Nat.le_refl _) e0
  have z1 := keep_cell hBa (Nat.le_refl _) e1
  clear hqd hq7 hb7 hb8 hBa hA5 hrw5 hll5 hx5 hq5 d0 d1 e0 e1 h0 h1 HIW HSW hbb
  rcases HRES.out with ⟨hsome, ep, en, eok⟩ | ⟨hnone, ep, en, eok⟩
  rotate_left
  · subst ep en eok
    go_wp2_with fail
    refine (likeGraph_same 0 aoX none 0 capX 0 F T H' (by omega) _ hx8 (fun k hk => by omega)).mono ?_
    rintro e w9 ⟨rfl, hb9⟩
    go_wp2
    go_ret
    exact ⟨rfl, below_next hA8 (Nat.le_refl _) hb9⟩
  have ep' := ep.symm
  have en' := en.symm
  subst ep' en' eok
  clear ep en HRES hn1 hn1'
  have hgr := res_ok hsome
  have HRW : Hid (∀ i, i < k → wOf p k F T H' (F i) (T i) = lwg A B C (F i) (T i) (G i) m) := fun i hi => res_weight hsome hi
  have hgo := fun W h => implGraphOk_any p aoX k capX F T H' hk' W h
  rw [hgr] at hgo
  have HGO : Hid (∀ W, Row W aoX k F T H' → Calls Try.prog 15 #[.agg #[.int .i64 p, .slice aoX k capX]] W fun e w' => e = .returned (.bool true) ∧ Below W.heap.size W w') := hgo
  clear hsome hgr hgo
  go_wp2_with fail
  go_loopw [12] (fun x wr => ∃ i : Nat, i ≤ k ∧ x = .int .i64 i ∧ Below w8.heap.size w8 wr) (fun x _ => k - (intOf x).toNat)
  case atStart => exact ⟨0, Nat.zero_le _, rfl, Below.refl _ _⟩
  case round =>
    obtain ⟨i, hi, rfl, hbel⟩ := hrel
    have b0 := keep_cell hbel (Nat.le_refl _) c0
    have b1 := keep_cell hbel (Nat.le_refl _) c1
    have t0 := keep_cell hbel (Nat.le_refl _) z0
    have t1 := keep_cell hbel (Nat.le_refl _) z1
    have hrww := hrw8.below hbel (Nat.le_refl _)
    have hllw := hll8.below hbel (Nat.le_refl _)
    have hxw := hx8.below hbel (Nat.le_refl _)
    have hAw := below_next hA8 (Nat.le_refl _) hbel
    by_cases hlt : i < k
    rotate_left
    · have him : ¬ (i : Int) < (k : Int) := by omega
      go_wp2_with fail
      refine (HGO.out _ hxw).mono ?_
      rintro e w13 ⟨rfl, hb13⟩
      replace b0 := keep_cell hb13 (Nat.le_refl _) b0
      replace b1 := keep_cell hb13 (Nat.le_refl _) b1
      replace t0 := keep_cell hb13 (Nat.le_refl _) t0
      replace t1 := keep_cell hb13 (Nat.le_refl _) t1
      have hA13 := below_next hAw (Nat.le_refl _) hb13
      go_wp2
      go_ret
      exact ⟨rfl, hA13⟩
    have hlt' : (i : Int) < (k : Int) := by omega
    have hi0 : (0 : Int) ≤ (i : Int) := by omega
    obtain ⟨gb, goo, ego, f0, f1, f2⟩ := hrww i hlt
    have HEGO : Hid (go = some ⟨gb, goo, none⟩) := ego
    rw [ego] at b1
    clear ego
    go_wp2_with fail
    go_loopw [13, 14] (fun z x wr' => ∃ q : Nat, q ≤ m ∧ z = .int .i64 (lwg A B C (F i) (T i) (G i) q) ∧ x = .int .i64 q ∧ Below wr.heap.size wr wr') (fun _ x _ => m - (intOf x).toNat)
    case atStart => exact ⟨0, Nat.zero_le _, rfl, rfl, Below.refl _ _⟩
    case round =>
      obtain ⟨q, hq, rfl, rfl, hbq⟩ := hrel
      replace b1 := keep_cell hbq (Nat.le_refl _) b1
      replace t0 := keep_cell hbq (Nat.le_refl _) t0
      replace t1 := keep_cell hbq (Nat.le_refl _) t1
      replace f0 := keep_cell hbq (Nat.le_refl _) f0
      replace f1 := keep_cell hbq (Nat.le_refl _) f1
      have hllq := hllw.below hbq (Nat.le_refl _)
      have hxq := hxw.below hbq (Nat.le_refl _)
      have hbelq := below_next hbel (Nat.le_refl _) hbq
      by_cases hqm : q < m
      rotate_left
      · obtain rfl : q = m := by omega
        obtain ⟨v, hv⟩ : ∃ v, lwg A B C (F i) (T i) (G i) q = v := ⟨_, rfl⟩
        have hcw := fun W h => implWeightOf_any p aoX k capX F T H' (F i) (T i) (HWF.out i hlt).1 (HWF.out i hlt).2 hk' W h
        rw [HRW.out i hlt, hv] at hcw
        rw [hv]
        have HCW : Hid (∀ W, Row W aoX k F T H' → Calls Try.prog 13 #[.agg #[.int .i64 p, .slice aoX k capX], .int .i64 (F i), .int .i64 (T i)] W fun e w' => e = .returned (.int .i64 v) ∧ Below W.heap.size W w') := hcw
        clear hcw hv
        have hxd := hxq.below (Below.refl wr.heap.size wr).drew (Nat.le_refl _)
        go_wp2_with fail
        go_region_held3 (fun w' => w'.cell? ⟨gB, 1, none⟩ = some (.slice (some ⟨gb, goo, none⟩) k gc) ∧ w'.cell? ⟨xB, 0, none⟩ = some (.int .i64 p) ∧ w'.cell? ⟨xB, 1, none⟩ = some (.slice aoX k capX) ∧ w'.cell? ⟨gb, goo + i * 3, none⟩ = some (.int .i64 (F i)) ∧ w'.cell? ⟨gb, goo + i * 3 + 1, none⟩ = some (.int .i64 (T i)))
          (first | (go_split_ands; refine ⟨?_, ?_, ?_, ?_, ?_⟩ <;> exact keep_cell hb9 (Nat.le_refl _) (by assumption)) | go_keep)
          (first | (go_at_call 13; refine (HCW.out _ hxd).mono ?_; rintro e w9 ⟨rfl, hb9⟩))
        all_goals
          have hB9 := below_next (below_next hbelq (Nat.le_refl _) (Below.refl wr.heap.size wr).drew) (Nat.le_refl _) hb9
          clear HCW hxd hb9 hbelq hbq hxq hllq f0 f1 t0 t1 b1
          go_wp2
          go_roundw
          case rel => exact ⟨i + 1, by omega, by go_num, hB9⟩
          case measure => simp [intOf]; omega
      have hqm' : (q : Int) < (m : Int) := by omega
      have hq0 : (0 : Int) ≤ (q : Int) := by omega
      obtain ⟨lb, lo, elo, s0, s1, s2⟩ := hllq q hqm
      subst elo
      have hsucc : Hid (lwg A B C (F i) (T i) (G i) (q + 1) = if A q = F i ∧ B q = T i then C q else lwg A B C (F i) (T i) (G i) q) := rfl
      generalize lwg A B C (F i) (T i) (G i) q = lq at hsucc ⊢
      by_cases h1 : A q = F i
      all_goals
        by_cases h2 : B q = T i
        all_goals
          go_wp2
          go_quiet (fail)
          go_wp2
          go_roundw
          case rel => exact ⟨q + 1, by omega, by rw [hsucc.out]; simp [h1, h2], by go_num, below_drewN hbq _⟩
          case measure => simp [intOf]; omega

set_option maxRecDepth 100000 in
theorem lawFnWeighed_lifted (os : Os) (started : os.Started) (H : Type) (enc : TypeId × Value → H) :
    ReturnsInHanded {} Try.checked os 3 .any (Rows.fnWeighedSpec.pre6 enc Try.prog Try.f3 Rows.fnWeighedRow.domain false) (Rows.fnWeighedSpec.post enc Try.prog Try.f3 false true false false) := by
  refine returnsInHanded_of_change (C := Try.checked) Try.own started (by kernel_rfl) Try.func3
    (ChangeSpec.witness6 (enc := enc) (C := Try.checked) false ⟨#[], #[.slice none 0 0], []⟩ 8 (by kernel_rfl) (by kernel_rfl) (by kernel_rfl) (by kernel_rfl)) ?_
  intro W base args ds gs before hval0 hW hcnd _
  have hval : ∀ (j : Nat) t v, Try.f3.params[j]? = some t → args[j]? = some v → Value.okWide Try.prog W .any base t v := hval0
  have hW' := hW
  obtain ⟨p, q, hA0, hV, rfl, hfz, hnd⟩ := hW
  have hA : DataW.TrodAll enc Try.prog W 0 (fun _ => true) true Try.f3.params.toList args.toList ds p := hA0
  rw [Try.params3] at hA hval
  obtain ⟨v1, vs1, d1, ds1, p1, q1, hargs, rfl, rfl, h1, r1⟩ := trodAll_cons hA
  obtain ⟨rfl, rfl, rfl⟩ := trodAll_nil r1
  obtain rfl : args = #[v1] := by cases args; simp_all
  obtain ⟨rfl, rfl⟩ := trodVars_none hV
  have k1 := h1
  have lt1 : ∀ x ∈ p1, x.block < W.heap.size := by obtain ⟨m, hm⟩ := k1; exact DataW.trod_lt m _ _ _ hm
  obtain ⟨b1, l1, c1', rfl⟩ := okWide_slice Try.underlying22 (hval 0 22 v1 rfl rfl)
  obtain ⟨f1, hf1⟩ := h1
  obtain ⟨ao2, m2, cap2, e2, hm2, hr2⟩ := open_bytes hf1
  simp [Value.cells] at e2
  obtain ⟨rfl, rfl, rfl⟩ := e2
  clear hA0 hval0
  refine (lawFnWeighed_walk b1 l1 c1' hm2 W hr2).mono fun e W' ⟨he, bel⟩ => ?_
  subst he
  exact ⟨_, rfl, _, _, _, [], _, [], hW', trodAll_mk1 (shut_bool Try.underlying4 _), (trodAll_cons_mk (Below.trod Try.laidOut (by kernel_rfl) (of_decide_eq_true (by kernel_rfl)) k1 bel lt1) trodAll_mk0), rfl, bel.frame _, fun h => by cases h⟩

theorem fnWeighed_holds : Rows.FnWeighedSaid :=
  OpenClaim.holds_of_wide 3 Try.f3 rfl rfl rfl rfl rfl rfl rfl ⟨rfl, rfl, rfl, rfl, rfl⟩ rfl rfl rfl rfl rfl (by kernel_rfl) Try.func3 (by kernel_rfl)
    (of_decide_eq_true (by kernel_rfl)) (by unfold Func.isWrapper; first | (rw [if_pos (by decide +kernel)]; kernel_rfl) | (rw [if_neg (by decide +kernel)]; exact ⟨rfl, rfl⟩))
    (fun os started H enc _ => lawFnWeighed_lifted os started H enc)
#print axioms fnWeighed_holds

end Go.Proofs.Ythcgibpiogmmdaa
