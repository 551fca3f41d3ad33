/-
  Proved: at every code the law FnShortest answers true, and its argument reads behind the call as it read before. No condition.
-/
import Derived.Test.YtoklneimebhjdabDrawM8Q
import Derived.Test.YtoklneimebhjdabShDQ
import Derived.Test.YtoklneimebhjdabMtgIQ
import Derived.Test.YtoklneimebhjdabDistDQ
import Derived.Test.YtoklneimebhjdabPack9
set_option linter.unusedVariables false
set_option linter.unusedSimpArgs false
namespace Go.Proofs.Ytoklneimebhjdab
open Go.ChangeShapes Go.WideShapes Go.ChangeAt Go.RowKit Go.Deep Go.Joins
attribute [local go_sem ↓] Go.wp_at_zero Go.wp_at_succ

set_option maxRecDepth 100000 in
set_option maxHeartbeats 8000000 in
theorem lawFnShortest_walk (ao : Option Addr) (n cap : Nat) (hn : n ≤ maxLen) (w : World) (hr : ByRow w w.heap.size ao n) :
    Calls Try.prog 4 #[.slice ao n cap] w fun e w' => e = .returned (.bool true) ∧ Below w.heap.size w w' := by
  unfold maxLen at hn
  by_cases hbig : 4096 < n
  · have hd : decide (4096 < n) = true := by simp [hbig]
    go_enter Try.func4, Try.ntmps4
    go_wp2_with fail
    refine (big_any ao n cap (by omega) _).mono ?_
    rw [hd]
    rintro e w1 ⟨rfl, hq⟩
    have hq' := hq.symm
    subst hq'
    go_wp2
    go_ret
    exact ⟨rfl, Below.refl _ _⟩
  have hd : decide (4096 < n) = false := by simp; omega
  go_enter Try.func4, Try.ntmps4
  go_wp2_with fail
  refine (big_any ao n cap (by omega) _).mono ?_
  rw [hd]
  rintro e w1 ⟨rfl, hq⟩
  have hq' := hq.symm
  subst hq'
  clear hq
  go_wp2_with fail
  refine (drawDistance_any ao n cap (by omega) _ hr).mono ?_
  rintro e w2 ⟨po, k, pc, P, eo, m, ec, L, H, uo, u, uc, U, vo, v, vc, V, a, b, rfl, ⟨hk, hm, hu, hv⟩, ⟨hP, hE, hU, hV⟩, _, hB⟩
  have hr2 := hr.up hB
  obtain ⟨N, hN⟩ : ∃ N, dst k P m L H u U v V a b = N := ⟨_, rfl⟩
  obtain ⟨M, hM⟩ : ∃ M, (mtg k m L H u U v V a b).1 = M := ⟨_, rfl⟩
  have HID : Hid (∀ W, IRow W po k P → ERow W eo m L H → IRow W uo u U → IRow W vo v V → Calls Try.prog 16 #[.agg #[.slice po k pc, .slice eo m ec], .agg #[.slice uo u uc, .slice vo v vc], .int .i64 a, .int .i64 b] W fun e w' => e = .returned (.int .i64 N) ∧ Below W.heap.size W w') := fun W h0 h1 h2 h3 => by rw [← hN]; exact implDistance_any po k pc P eo m ec L H uo u uc U vo v vc V a b (by omega) (by omega) (by omega) (by omega) W h0 h1 h2 h3
  have HSD : Hid (∀ W, IRow W po k P → ERow W eo m L H → IRow W uo u U → IRow W vo v V → Calls Try.prog 17 #[.agg #[.slice po k pc, .slice eo m ec], .agg #[.slice uo u uc, .slice vo v vc], .int .i64 a, .int .i64 b] W fun e w' => e = .returned (.int .i64 N) ∧ Below W.heap.size W w') := fun W h0 h1 h2 h3 => by rw [← hN]; exact specDistance_any po k pc P eo m ec L H uo u uc U vo v vc V a b (by omega) (by omega) (by omega) (by omega) W h0 h1 h2 h3
  have HIM : Hid (∀ W, ERow W eo m L H → IRow W uo u U → IRow W vo v V → Calls Try.prog 18 #[.agg #[.slice po k pc, .slice eo m ec], .agg #[.slice uo u uc, .slice vo v vc], .int .i64 a, .int .i64 b] W fun e w' => e = .returned (.int .i64 M) ∧ Below W.heap.size W w') := fun W h1 h2 h3 => by rw [← hM]; exact implMeeting_any po k pc eo m ec L H uo u uc U vo v vc V a b (by omega) (by omega) (by omega) (by omega) W h1 h2 h3
  have HSM : Hid (∀ W, ERow W eo m L H → IRow W uo u U → IRow W vo v V → Calls Try.prog 19 #[.agg #[.slice po k pc, .slice eo m ec], .agg #[.slice uo u uc, .slice vo v vc], .int .i64 a, .int .i64 b] W fun e w' => e = .returned (.int .i64 M) ∧ Below W.heap.size W w') := fun W h1 h2 h3 => by rw [← hM]; exact specMeeting_any po k pc eo m ec L H uo u uc U vo v vc V a b (by omega) (by omega) (by omega) (by omega) W h1 h2 h3
  clear hN hM
  go_wp2_with fail
  have ha1 := (Below.refl w2.heap.size w2).alloc (Nat.le_refl _) (.cells #[.slice po k pc, .slice eo m ec] 40)
  have ha2 := (Below.refl _ (w2.alloc (.cells #[.slice po k pc, .slice eo m ec] 40))).alloc (Nat.le_refl _) (.cells #[.slice uo u uc, .slice vo v vc] 42)
  have haa := below_next ha1 (Nat.le_refl _) ha2
  have c0 : ((w2.alloc (.cells #[.slice po k pc, .slice eo m ec] 40)).alloc (.cells #[.slice uo u uc, .slice vo v vc] 42)).cell? ⟨w2.heap.size, 0, none⟩ = some (.slice po k pc) := keep_cell ha2 (Nat.le_refl _) (by simp [go_sem])
  have c1 : ((w2.alloc (.cells #[.slice po k pc, .slice eo m ec] 40)).alloc (.cells #[.slice uo u uc, .slice vo v vc] 42)).cell? ⟨w2.heap.size, 1, none⟩ = some (.slice eo m ec) := keep_cell ha2 (Nat.le_refl _) (by simp [go_sem])
  have Ma := me2_new (w2.alloc (.cells #[.slice po k pc, .slice eo m ec] 40)) (.slice uo u uc) (.slice vo v vc)
  simp only [World.size_alloc] at Ma
  have c2 : ((w2.alloc (.cells #[.slice po k pc, .slice eo m ec] 40)).alloc (.cells #[.slice uo u uc, .slice vo v vc] 42)).cell? ⟨w2.heap.size + 1, 0, none⟩ = some (.slice uo u uc) := Ma.cell (j := 0) (by omega)
  have c3 : ((w2.alloc (.cells #[.slice po k pc, .slice eo m ec] 40)).alloc (.cells #[.slice uo u uc, .slice vo v vc] 42)).cell? ⟨w2.heap.size + 1, 1, none⟩ = some (.slice vo v vc) := Ma.cell (j := 1) (by omega)
  clear Ma
  have hszB := hB.size
  replace hP := hP.below haa (Nat.le_refl _)
  replace hE := hE.below haa (Nat.le_refl _)
  replace hU := hU.below haa (Nat.le_refl _)
  replace hV := hV.below haa (Nat.le_refl _)
  replace hB := hB.trans (haa.mono hszB)
  clear ha1 ha2 haa
  generalize ((w2.alloc (.cells #[.slice po k pc, .slice eo m ec] 40)).alloc (.cells #[.slice uo u uc, .slice vo v vc] 42)) = W3 at hP hE hU hV hB c0 c1 c2 c3 ⊢
  generalize w2.heap.size = hb at c0 c1 c2 c3 hszB ⊢
  have hbd := (Below.refl W3.heap.size W3).drew
  replace hP := hP.below hbd (Nat.le_refl _)
  replace hE := hE.below hbd (Nat.le_refl _)
  replace hU := hU.below hbd (Nat.le_refl _)
  replace hV := hV.below hbd (Nat.le_refl _)
  replace c0 := keep_cell hbd (Nat.le_refl _) c0
  replace c1 := keep_cell hbd (Nat.le_refl _) c1
  replace c2 := keep_cell hbd (Nat.le_refl _) c2
  replace c3 := keep_cell hbd (Nat.le_refl _) c3
  have hs3 := hB.size
  replace hB := hB.trans (hbd.mono hs3)
  clear hbd
  go_region_held3 (fun w' => w'.cell? ⟨hb, 0, none⟩ = some (.slice po k pc) ∧ w'.cell? ⟨hb, 1, none⟩ = some (.slice eo m ec) ∧ w'.cell? ⟨hb + 1, 0, none⟩ = some (.slice uo u uc) ∧ w'.cell? ⟨hb + 1, 1, none⟩ = some (.slice vo v vc))
    (first | (go_split_ands; refine ⟨?_, ?_, ?_, ?_⟩ <;> exact keep_cell hb7 (Nat.le_refl _) (by assumption)) | (go_split_ands; refine ⟨?_, ?_, ?_, ?_⟩ <;> exact keep_cell hb6 (Nat.le_refl _) (by assumption)) | (go_split_ands; refine ⟨?_, ?_, ?_, ?_⟩ <;> exact keep_cell hb5 (Nat.le_refl _) (by assumption)) | (go_split_ands; refine ⟨?_, ?_, ?_, ?_⟩ <;> exact keep_cell hb4 (Nat.le_refl _) (by assumption)) | go_keep)
    (first | (go_at_call 16; refine (HID.out _ hP hE hU hV).mono ?_; rintro e w4 ⟨rfl, hb4⟩) | (go_at_call 17; refine (HSD.out _ (hP.below hb4 (Nat.le_refl _)) (hE.below hb4 (Nat.le_refl _)) (hU.below hb4 (Nat.le_refl _)) (hV.below hb4 (Nat.le_refl _))).mono ?_; rintro e w5 ⟨rfl, hb5⟩) | (go_at_call 18; refine (HIM.out _ ((hE.below hb4 (Nat.le_refl _)).below hb5 (Nat.le_refl _)) ((hU.below hb4 (Nat.le_refl _)).below hb5 (Nat.le_refl _)) ((hV.below hb4 (Nat.le_refl _)).below hb5 (Nat.le_refl _))).mono ?_; rintro e w6 ⟨rfl, hb6⟩) | (go_at_call 19; refine (HSM.out _ (((hE.below hb4 (Nat.le_refl _)).below hb5 (Nat.le_refl _)).below hb6 (Nat.le_refl _)) (((hU.below hb4 (Nat.le_refl _)).below hb5 (Nat.le_refl _)).below hb6 (Nat.le_refl _)) (((hV.below hb4 (Nat.le_refl _)).below hb5 (Nat.le_refl _)).below hb6 (Nat.le_refl _))).mono ?_; rintro e w7 ⟨rfl, hb7⟩))
  have hs4 := hB.size
  have hBz := below_next (below_next (below_next hb4 (Nat.le_refl _) hb5) (Nat.le_refl _) hb6) (Nat.le_refl _) hb7
  replace hB := hB.trans (hBz.mono (by have := hB.size; simpa only [World.size_drew] using this))
  clear hBz hb4 hb5 hb6 hb7 hP hE hU hV c0 c1 c2 c3 HID HSD HIM HSM
  go_wp2_with fail
  refine (drawOrderOk_any ao n cap (by omega) _ (hr.up hB)).mono ?_
  clear hr2 hr hszB hs3 hs4 hk hm hu hv
  rintro e w8 ⟨p, go, k, gc, po, m, pc, P, rfl, hk, hm, ⟨F, T, G, hr, _⟩, ⟨hP, _⟩, hb8⟩
  have hs7 := hB.size
  replace hB := hB.trans (hb8.mono hs7)
  have ha := (Below.refl w8.heap.size w8).alloc (Nat.le_refl _) (.cells #[.int .i64 p, .slice go k gc] 32)
  have hs8 := hB.size
  replace hr := hr.below ha (Nat.le_refl _)
  replace hP := hP.below ha (Nat.le_refl _)
  replace hB := hB.trans (ha.mono hs8)
  have g0 : (w8.alloc (.cells #[.int .i64 p, .slice go k gc] 32)).cell? ⟨w8.heap.size, 0, none⟩ = some (.int .i64 p) := by simp [go_sem]
  have g1 : (w8.alloc (.cells #[.int .i64 p, .slice go k gc] 32)).cell? ⟨w8.heap.size, 1, none⟩ = some (.slice go k gc) := by simp [go_sem]
  clear ha hb8 hs7 hs8
  go_wp2_with fail
  generalize (w8.alloc (.cells #[.int .i64 p, .slice go k gc] 32)) = W9 at hr hP hB g0 g1 ⊢
  generalize w8.heap.size = gb at g0 g1 ⊢
  refine (specOrderOk_any p go k gc F T G po m pc P (by omega) (by omega) _ hr hP).mono ?_
  rintro e w10 ⟨rfl, hb10⟩
  have hs9 := hB.size
  replace hr := hr.below hb10 (Nat.le_refl _)
  replace hP := hP.below hb10 (Nat.le_refl _)
  replace hB := hB.trans (hb10.mono hs9)
  replace g0 := keep_cell hb10 (Nat.le_refl _) g0
  replace g1 := keep_cell hb10 (Nat.le_refl _) g1
  clear hb10 hs9
  rcases Bool.eq_false_or_eq_true (ordB p k F T G m P) with ho | ho
  rotate_left
  · rw [ho]
    go_wp2
    go_ret
    exact ⟨rfl, hB⟩
  rw [ho]
  have HO : Hid (ordB p k F T G m P = true) := ho
  have hF := fun W h1 h2 => specFill_own p go k gc F T G po m pc P (by omega) (by omega) W h1 h2
  rw [ho] at hF
  clear ho
  go_wp2_with fail
  refine (hF _ hr hP).mono ?_
  rintro e w11 ⟨ge, ec, l, rfl, hl, hE, hb11⟩
  rw [if_pos trivial] at hl
  have hs10 := hB.size
  replace hr := hr.below hb11 (Nat.le_refl _)
  replace hP := hP.below hb11 (Nat.le_refl _)
  replace hB := hB.trans (hb11.mono hs10)
  replace g0 := keep_cell hb11 (Nat.le_refl _) g0
  replace g1 := keep_cell hb11 (Nat.le_refl _) g1
  replace hE := hE.has.row
  clear hb11 hs10 hF
  obtain ⟨hpm, hgr, ⟨m1, m24⟩, _⟩ := ordB_parts HO.out
  subst hpm
  have hA : Arcs m k F T G := arcs_of (graphB_arcs hgr).2
  obtain ⟨Ds, hDs⟩ := choose_lt (α := Nat → Int) (n := m) (p := fun s D => Sol m k F T G s D) (fun s hs => sol_ex (s := s) hA)
  obtain ⟨⟨CU, CD⟩, hC⟩ : ∃ D, cusT (m : Int) k F T G P = D := ⟨_, rfl⟩
  have hok : HOk (m : Int) k F T G m P l.length (Lf l) (Hf l) := ⟨HO.out, by rw [hl]; unfold lenF; rw [if_pos HO.out], fun i hi => by rw [hl]; exact ⟨rfl, rfl⟩⟩
  have hl1000 : l.length ≤ 1000 := by have := lenM_le (m : Int) k F T G m P l.length (Lf l) (Hf l); rw [lenM_yes hok] at this; exact this
  have HCU : Hid (∀ ao' cap' po' pcap' eo' ecap' W, Row W ao' k F T G → IRow W po' m P → ERow W eo' l.length (Lf l) (Hf l) → Calls Try.prog 21 #[.agg #[.int .i64 (m : Int), .slice ao' k cap'], .agg #[.slice po' m pcap', .slice eo' l.length ecap']] W fun e w' => MAns W w' e l.length CU CD) := fun ao' cap' po' pcap' eo' ecap' W h1 h2 h3 => by
    have := specCustomize_any (m : Int) ao' k cap' F T G po' m pcap' P eo' l.length ecap' (Lf l) (Hf l) (by omega) (by omega) (by omega) W h1 h2 h3
    rw [lenM_yes hok, hC] at this
    exact this
  have HDD : Hid (∀ i j, i < m → j < m → dst m P l.length (Lf l) (Hf l) l.length CU l.length CD (i : Int) (j : Int) = Ds i j) := fun i j hi hj => by
    have := dst_is HO.out hDs hC hi hj
    rw [← hl] at this
    exact this
  have HDS : Hid (∀ (i : Nat) W, i < m → Row W go k F T G → Calls Try.prog 22 #[.agg #[.int .i64 (m : Int), .slice go k gc], .int .i64 (i : Int)] W fun e w' => Ans W w' e m (Ds i)) := fun i W hi h1 => by
    refine (specDistances_any (m : Int) go k gc F T G (i : Int) (by omega) W h1).mono ?_
    have hL : lenD (m : Int) k F T G (i : Int) = m := by
      unfold lenD okD
      rw [hgr]
      have : inB (i : Int) 0 ((m : Int) - 1) = true := by simp [inB]; omega
      rw [this]
      simp
    rintro e w' h
    rw [hL] at h
    obtain ⟨ao', cap', e1, h2, h3⟩ := h
    refine ⟨ao', cap', e1, fun h0 => ?_, h3⟩
    obtain ⟨g, q1, q2, q3⟩ := h2 h0
    refine ⟨g, q1, q2, q3.congr (fun j hj => ?_)⟩
    unfold listD
    rw [Int.toNat_natCast, Int.toNat_natCast]
    exact turns_sol hA (hDs i hi) j hj
  clear hok hC hDs hA hgr
  have ha := (Below.refl w11.heap.size w11).alloc (Nat.le_refl _) (.cells #[.slice po m pc, .slice (some ⟨ge, 0, none⟩) l.length ec] 40)
  have hs11 := hB.size
  replace hr := hr.below ha (Nat.le_refl _)
  replace hP := hP.below ha (Nat.le_refl _)
  replace hE := hE.below ha (Nat.le_refl _)
  replace hB := hB.trans (ha.mono hs11)
  replace g0 := keep_cell ha (Nat.le_refl _) g0
  replace g1 := keep_cell ha (Nat.le_refl _) g1
  have k0 : (w11.alloc (.cells #[.slice po m pc, .slice (some ⟨ge, 0, none⟩) l.length ec] 40)).cell? ⟨w11.heap.size, 0, none⟩ = some (.slice po m pc) := by simp [go_sem]
  have k1 : (w11.alloc (.cells #[.slice po m pc, .slice (some ⟨ge, 0, none⟩) l.length ec] 40)).cell? ⟨w11.heap.size, 1, none⟩ = some (.slice (some ⟨ge, 0, none⟩) l.length ec) := by simp [go_sem]
  clear ha hs11 hl
  generalize hN : l.length = N at hE HCU HDD hl1000 k0 k1 hr hP hB g0 g1 ⊢
  go_wp2_with fail
  generalize (w11.alloc (.cells #[.slice po m pc, .slice (some ⟨ge, 0, none⟩) N ec] 40)) = W12 at hr hP hE hB g0 g1 k0 k1 ⊢
  generalize w11.heap.size = kb at k0 k1 ⊢
  refine (HCU.out _ _ _ _ _ _ _ hr hP hE).mono ?_
  rintro e w12 ⟨uo, uc, vo, vc, rfl, hUV, _, hb12⟩
  have hU : IRow w12 uo N CU := fun q hq => by
    obtain ⟨b1, b2, e1, e2, _, _, _, i1, i2⟩ := hUV (by omega)
    rw [e1]; exact i1.row q hq
  have hV : IRow w12 vo N CD := fun q hq => by
    obtain ⟨b1, b2, e1, e2, _, _, _, i1, i2⟩ := hUV (by omega)
    rw [e2]; exact i2.row q hq
  have hs12 := hB.size
  replace hr := hr.below hb12 (Nat.le_refl _)
  replace hP := hP.below hb12 (Nat.le_refl _)
  replace hE := hE.below hb12 (Nat.le_refl _)
  replace hB := hB.trans (hb12.mono hs12)
  replace g0 := keep_cell hb12 (Nat.le_refl _) g0
  replace g1 := keep_cell hb12 (Nat.le_refl _) g1
  replace k0 := keep_cell hb12 (Nat.le_refl _) k0
  replace k1 := keep_cell hb12 (Nat.le_refl _) k1
  clear hb12 hs12 hUV HCU
  have ha := (Below.refl w12.heap.size w12).alloc (Nat.le_refl _) (.cells #[.slice uo N uc, .slice vo N vc] 42)
  have hs13 := hB.size
  replace hr := hr.below ha (Nat.le_refl _)
  replace hP := hP.below ha (Nat.le_refl _)
  replace hE := hE.below ha (Nat.le_refl _)
  replace hU := hU.below ha (Nat.le_refl _)
  replace hV := hV.below ha (Nat.le_refl _)
  replace hB := hB.trans (ha.mono hs13)
  replace g0 := keep_cell ha (Nat.le_refl _) g0
  replace g1 := keep_cell ha (Nat.le_refl _) g1
  replace k0 := keep_cell ha (Nat.le_refl _) k0
  replace k1 := keep_cell ha (Nat.le_refl _) k1
  have n0 : (w12.alloc (.cells #[.slice uo N uc, .slice vo N vc] 42)).cell? ⟨w12.heap.size, 0, none⟩ = some (.slice uo N uc) := by simp [go_sem]
  have n1 : (w12.alloc (.cells #[.slice uo N uc, .slice vo N vc] 42)).cell? ⟨w12.heap.size, 1, none⟩ = some (.slice vo N vc) := by simp [go_sem]
  clear ha hs13
  have HDI : Hid (∀ (i j : Nat) W, i < m → j < m → IRow W po m P → ERow W (some ⟨ge, 0, none⟩) N (Lf l) (Hf l) → IRow W uo N CU → IRow W vo N CD → Calls Try.prog 16 #[.agg #[.slice po m pc, .slice (some ⟨ge, 0, none⟩) N ec], .agg #[.slice uo N uc, .slice vo N vc], .int .i64 (i : Int), .int .i64 (j : Int)] W fun e w' => e = .returned (.int .i64 (Ds i j)) ∧ Below W.heap.size W w') := fun i j W hi hj h1 h2 h3 h4 => by
    have := implDistance_any po m pc P (some ⟨ge, 0, none⟩) N ec (Lf l) (Hf l) uo N uc CU vo N vc CD (i : Int) (j : Int) (by omega) (by omega) (by omega) (by omega) W h1 h2 h3 h4
    rw [HDD.out i j hi hj] at this
    exact this
  clear HDD hN
  generalize Lf l = Le at hE HDI
  generalize Hf l = He at hE HDI
  go_wp2_with fail
  generalize (w12.alloc (.cells #[.slice uo N uc, .slice vo N vc] 42)) = W13 at hr hP hE hU hV hB g0 g1 k0 k1 n0 n1 ⊢
  generalize w12.heap.size = nb at n0 n1 ⊢
  have hs13 := hB.size
  go_loopw [11] (fun x wr => ∃ i : Nat, i ≤ m ∧ x = .int .i64 i ∧ Below W13.heap.size W13 wr) (fun x _ => m - (intOf x).toNat)
  case atStart => exact ⟨0, Nat.zero_le _, rfl, Below.refl _ _⟩
  case round =>
    obtain ⟨i, hi, rfl, hbel⟩ := hrel
    have b0 := keep_cell hbel (Nat.le_refl _) g0
    have b1 := keep_cell hbel (Nat.le_refl _) g1
    by_cases hlt : i < m
    rotate_left
    · have him : ¬ (i : Int) < (m : Int) := by omega
      go_wp2
      go_ret
      exact ⟨rfl, hB.trans (hbel.mono hs13)⟩
    have hlt' : (i : Int) < (m : Int) := by omega
    go_wp2_with fail
    refine (HDS.out i _ hlt (hr.below hbel (Nat.le_refl _))).mono ?_
    rintro e w14 ⟨aoD, capD, rfl, hX, hb14⟩
    have hrD := ans_row hX
    have hbe2 := below_next hbel (Nat.le_refl _) hb14
    have hs14 := hbe2.size
    clear hX hb14 b0 b1 hbel
    go_wp2_with fail
    go_loopw [13] (fun x wr => ∃ j : Nat, j ≤ m ∧ x = .int .i64 j ∧ Below w14.heap.size w14 wr) (fun x _ => m - (intOf x).toNat)
    case atStart => exact ⟨0, Nat.zero_le _, rfl, Below.refl _ _⟩
    case round =>
      obtain ⟨j, hj, rfl, hbel3⟩ := hrel
      have hb5 := below_next hbe2 (Nat.le_refl _) hbel3
      have b0 := keep_cell hb5 (Nat.le_refl _) g0
      have b1 := keep_cell hb5 (Nat.le_refl _) g1
      by_cases hltj : j < m
      rotate_left
      · have him : ¬ (j : Int) < (m : Int) := by omega
        go_wp2
        go_roundw
        case rel => exact ⟨i + 1, by omega, by go_num, hb5⟩
        case measure => simp [intOf]; omega
      have hltj' : (j : Int) < (m : Int) := by omega
      have b2 := keep_cell hb5 (Nat.le_refl _) k0
      have b3 := keep_cell hb5 (Nat.le_refl _) k1
      have b4 := keep_cell hb5 (Nat.le_refl _) n0
      have b5 := keep_cell hb5 (Nat.le_refl _) n1
      obtain ⟨bb, o, hao, cc⟩ := (hrD.below hbel3 (Nat.le_refl _)) j hltj
      subst hao
      have hbd := (Below.refl wr.heap.size wr).drew
      replace b2 := keep_cell hbd (Nat.le_refl _) b2
      replace b3 := keep_cell hbd (Nat.le_refl _) b3
      replace b4 := keep_cell hbd (Nat.le_refl _) b4
      replace b5 := keep_cell hbd (Nat.le_refl _) b5
      replace cc := keep_cell hbd (Nat.le_refl _) cc
      have hb6 := below_next hb5 (Nat.le_refl _) hbd
      have hbel6 := below_next hbel3 (Nat.le_refl _) hbd
      go_wp2_with fail
      go_region_held3 (fun w' => w'.cell? ⟨kb, 0, none⟩ = some (.slice po m pc) ∧ w'.cell? ⟨kb, 1, none⟩ = some (.slice (some ⟨ge, 0, none⟩) N ec) ∧ w'.cell? ⟨nb, 0, none⟩ = some (.slice uo N uc) ∧ w'.cell? ⟨nb, 1, none⟩ = some (.slice vo N vc) ∧ w'.cell? ⟨bb, o + j, none⟩ = some (.int .i64 (Ds i j)))
        (first | (go_split_ands; refine ⟨?_, ?_, ?_, ?_, ?_⟩ <;> exact keep_cell hb16 (Nat.le_refl _) (by assumption)) | go_keep)
        (first | (go_at_call 16; refine (HDI.out i j _ hlt hltj (hP.below hb6 (Nat.le_refl _)) (hE.below hb6 (Nat.le_refl _)) (hU.below hb6 (Nat.le_refl _)) (hV.below hb6 (Nat.le_refl _))).mono ?_; rintro e w16 ⟨rfl, hb16⟩))
      have hbel7 := below_next hbel6 (Nat.le_refl _) hb16
      clear b0 b1 b2 b3 b4 b5 cc hb5 hb6 hbel6 hbel3 hbd
      go_wp2
      go_roundw
      case rel => exact ⟨j + 1, by omega, by go_num, hbel7⟩
      case measure => simp [intOf]; omega

set_option maxRecDepth 100000 in
theorem lawFnShortest_lifted (os : Os) (started : os.Started) (H : Type) (enc : TypeId × Value → H) :
    ReturnsInHanded {} Try.checked os 4 .any (Rows.fnShortestSpec.pre6 enc Try.prog Try.f4 Rows.fnShortestRow.domain false) (Rows.fnShortestSpec.post enc Try.prog Try.f4 false true false false) := by
  refine returnsInHanded_of_change (C := Try.checked) Try.own started (by kernel_rfl) Try.func4
    (ChangeSpec.witness6 (enc := enc) (C := Try.checked) false ⟨#[], #[.slice none 0 0], []⟩ 8 (by kernel_rfl) (by kernel_rfl) (by kernel_rfl) (by kernel_rfl)) ?_
  intro W base args ds gs before hval0 hW hcnd _
  have hval : ∀ (j : Nat) t v, Try.f4.params[j]? = some t → args[j]? = some v → Value.okWide Try.prog W .any base t v := hval0
  have hW' := hW
  obtain ⟨p, q, hA0, hV, rfl, hfz, hnd⟩ := hW
  have hA : DataW.TrodAll enc Try.prog W 0 (fun _ => true) true Try.f4.params.toList args.toList ds p := hA0
  rw [Try.params4] at hA hval
  obtain ⟨v1, vs1, d1, ds1, p1, q1, hargs, rfl, rfl, h1, r1⟩ := trodAll_cons hA
  obtain ⟨rfl, rfl, rfl⟩ := trodAll_nil r1
  obtain rfl : args = #[v1] := by cases args; simp_all
  obtain ⟨rfl, rfl⟩ := trodVars_none hV
  have k1 := h1
  have lt1 : ∀ x ∈ p1, x.block < W.heap.size := by obtain ⟨m, hm⟩ := k1; exact DataW.trod_lt m _ _ _ hm
  obtain ⟨b1, l1, c1', rfl⟩ := okWide_slice Try.underlying22 (hval 0 22 v1 rfl rfl)
  obtain ⟨f1, hf1⟩ := h1
  obtain ⟨ao2, m2, cap2, e2, hm2, hr2⟩ := open_bytes hf1
  simp [Value.cells] at e2
  obtain ⟨rfl, rfl, rfl⟩ := e2
  clear hA0 hval0
  refine (lawFnShortest_walk b1 l1 c1' hm2 W hr2).mono fun e W' ⟨he, bel⟩ => ?_
  subst he
  exact ⟨_, rfl, _, _, _, [], _, [], hW', trodAll_mk1 (shut_bool Try.underlying4 _), (trodAll_cons_mk (Below.trod Try.laidOut (by kernel_rfl) (of_decide_eq_true (by kernel_rfl)) k1 bel lt1) trodAll_mk0), rfl, bel.frame _, fun h => by cases h⟩

theorem fnShortest_holds : Rows.FnShortestSaid :=
  OpenClaim.holds_of_wide 4 Try.f4 rfl rfl rfl rfl rfl rfl rfl ⟨rfl, rfl, rfl, rfl, rfl⟩ rfl rfl rfl rfl rfl (by kernel_rfl) Try.func4 (by kernel_rfl)
    (of_decide_eq_true (by kernel_rfl)) (by unfold Func.isWrapper; first | (rw [if_pos (by decide +kernel)]; kernel_rfl) | (rw [if_neg (by decide +kernel)]; exact ⟨rfl, rfl⟩))
    (fun os started H enc _ => lawFnShortest_lifted os started H enc)
#print axioms fnShortest_holds

end Go.Proofs.Ytoklneimebhjdab
