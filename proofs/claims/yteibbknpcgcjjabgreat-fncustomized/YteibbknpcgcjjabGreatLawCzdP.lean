/-
  Proved: at every code the law FnCustomized answers true, and its argument reads behind the call as it read before. No condition.
-/
import Derived.Test.YteibbknpcgcjjabGreatDrawCzP
import Derived.Test.YteibbknpcgcjjabGreatPack9
import Derived.Test.YteibbknpcgcjjabGreatCuQP
import Derived.Test.YteibbknpcgcjjabGreatRecBP
import Derived.Test.YteibbknpcgcjjabGreatCusIP
import Derived.Test.YteibbknpcgcjjabGreatCusDP
import Derived.Test.YteibbknpcgcjjabGreatMetOP
import Derived.Test.YteibbknpcgcjjabGreatPack13
import Derived.Test.YteibbknpcgcjjabGreatPack8
set_option linter.unusedVariables false
set_option linter.unusedSimpArgs false
namespace Go.Proofs.YteibbknpcgcjjabGreat
open Go.ChangeShapes Go.WideShapes Go.ChangeAt Go.RowKit Go.Deep Go.Joins
attribute [local go_sem ↓] Go.wp_at_zero Go.wp_at_succ

open Classical in
theorem bool_of (P : Prop) : ∃ b : Bool, (b = true ↔ P) := ⟨decide P, by simp⟩
theorem BAns.is {e : Ending} {P : Prop} {b : Bool} (h : BAns e P) (hb : b = true ↔ P) : e = .returned (.bool b) := by
  obtain ⟨v, rfl, hv⟩ := h
  have : v = b := by cases v <;> cases b <;> simp_all
  rw [this]
theorem MAns.rows {w w' : World} {e : Ending} {m : Nat} {U D : Nat → Int} (h : MAns w w' e m U D) : ∃ ao cap eo ecap, e = .returned (.agg #[.slice ao m cap, .slice eo m ecap]) ∧ IRow w' ao m U ∧ IRow w' eo m D ∧ Below w.heap.size w w' := by
  obtain ⟨ao, cap, eo, ecap, e1, h2, _, h3⟩ := h
  refine ⟨ao, cap, eo, ecap, e1, fun q hq => ?_, fun q hq => ?_, h3⟩
  · obtain ⟨b, c, e1, _, _, _, _, i1, _⟩ := h2 (by omega)
    rw [e1]; exact i1.row q hq
  · obtain ⟨b, c, _, e2, _, _, _, _, i2⟩ := h2 (by omega)
    rw [e2]; exact i2.row q hq
theorem HAns.rows {w w' : World} {e : Ending} {m : Nat} {D : Nat → Int} {k : Nat} {L H : Nat → Int} (h : HAns w w' e m D k L H) : ∃ ao cap eo ecap, e = .returned (.agg #[.slice ao m cap, .slice eo k ecap]) ∧ IRow w' ao m D ∧ ERow w' eo k L H ∧ Below w.heap.size w w' := by
  obtain ⟨ao, cap, eo, ecap, e1, h2, h3, _, h4⟩ := h
  refine ⟨ao, cap, eo, ecap, e1, fun q hq => ?_, fun q hq => ?_, h4⟩
  · obtain ⟨g, e1, _, i1⟩ := h2 (by omega)
    rw [e1]; exact i1.row q hq
  · obtain ⟨g, e1, _, i1⟩ := h3 (by omega)
    rw [e1]; exact i1.row q hq
theorem RAns.rows {w w' : World} {e : Ending} {p' : Int} {n' : Nat} {F T H' : Nat → Int} {m' : Nat} {CU CD : Nat → Int} {ok : Bool} (h : RAns w w' e p' n' F T H' m' CU CD ok) : ∃ ao cap xo xc yo yc, e = .returned (.tuple #[.agg #[.int .i64 p', .slice ao n' cap], .agg #[.slice xo m' xc, .slice yo m' yc], .bool ok]) ∧ Row w' ao n' F T H' ∧ IRow w' xo m' CU ∧ IRow w' yo m' CD ∧ Below w.heap.size w w' := by
  obtain ⟨ao, cap, xo, xc, yo, yc, e1, h1, h2, _, h3⟩ := h
  refine ⟨ao, cap, xo, xc, yo, yc, e1, h1.row, fun q hq => ?_, fun q hq => ?_, h3⟩
  · obtain ⟨b, c, e1, _, _, _, _, i1, _⟩ := h2 (by omega)
    rw [e1]; exact i1.row q hq
  · obtain ⟨b, c, _, e2, _, _, _, _, i2⟩ := h2 (by omega)
    rw [e2]; exact i2.row q hq
/-- The fill does not look at the weights. -/
theorem hok_rw {p : Int} {n : Nat} {F T G G' : Nat → Int} {k : Nat} {P : Nat → Int} {m : Nat} {L H : Nat → Int} (h : HOk p n F T G k P m L H) (hg : graphB p n F T G' = true) : HOk p n F T G' k P m L H := by
  obtain ⟨h1, h2⟩ := h
  have ho : ordB p n F T G' k P = true := by
    have h0 := h1
    unfold ordB at h0 ⊢
    simp only [Bool.and_eq_true] at h0 ⊢
    simp_all
  refine ⟨ho, ?_⟩
  unfold lenF at h2 ⊢
  rw [h1] at h2
  rw [ho]
  exact h2
theorem isRec_ex (p : Int) (n : Nat) (F T G : Nat → Int) (k : Nat) (P : Nat → Int) (m : Nat) (L H : Nat → Int) (u : Nat) (U : Nat → Int) (v : Nat) (V : Nat → Int) (s : Nat) (A B C : Nat → Int) : ∃ p' n' H' m' CU CD ok, IsRec p n F T G k P m L H u U v V s A B C p' n' H' m' CU CD ok := by
  by_cases h : resOf p n F T G s A B C ≠ none ∧ RcOk p n F T G k P m L H u U v V true
  · obtain ⟨H', hH⟩ := Option.ne_none_iff_exists'.1 h.1
    exact ⟨p, n, H', m, _, _, true, .inl ⟨hH, h.2, rfl, rfl, rfl, rfl, rfl⟩⟩
  · exact ⟨0, 0, G, 0, G, G, false, .inr ⟨h, rfl, rfl, rfl, rfl⟩⟩
theorem isRec_le {p : Int} {n : Nat} {F T G : Nat → Int} {k : Nat} {P : Nat → Int} {m : Nat} {L H : Nat → Int} {u : Nat} {U : Nat → Int} {v : Nat} {V : Nat → Int} {s : Nat} {A B C : Nat → Int} {p' : Int} {n' : Nat} {H' : Nat → Int} {m' : Nat} {CU CD : Nat → Int} {ok : Bool} (h : IsRec p n F T G k P m L H u U v V s A B C p' n' H' m' CU CD ok) : n' ≤ n ∧ m' ≤ m := by
  rcases h with ⟨_, _, _, h1, h2, _⟩ | ⟨_, _, h1, h2, _⟩ <;> omega
theorem hok_mok {p : Int} {n : Nat} {F T G : Nat → Int} {k : Nat} {P : Nat → Int} {m : Nat} {L H CU CD : Nat → Int} (h : HOk p n F T G k P m L H) (hC : cusT p n F T G P = (CU, CD)) : MOk k m (Lf (lstF p n F T P)) (Hf (lstF p n F T P)) m CU m CD := by
  obtain ⟨h1, h2⟩ := hok_len h
  have := mok_can h.1
  rw [hC, ← h1] at this
  exact this

set_option maxRecDepth 100000 in
set_option maxHeartbeats 16000000 in


theorem lawFnCustomized_walk (ao : Option Addr) (n cap : Nat) (hn : n ≤ maxLen) (w : World) (hr : ByRow w w.heap.size ao n) :
    Calls Tryz.prog 3 #[.slice ao n cap] w fun e w' => e = .returned (.bool true) ∧ Below w.heap.size w w' := by
  unfold maxLen at hn
  by_cases hbig : 4096 < n
  · have hd : decide (4096 < n) = true := by simp [hbig]
    go_enter Tryz.func3, Tryz.ntmps3
    go_wp2_with fail
    refine (big_any ao n cap (by omega) _).mono ?_
    rw [hd]
    rintro e w1 ⟨rfl, hq⟩
    have hq' := hq.symm
    subst hq'
    go_wp2
    go_ret
    exact ⟨rfl, Below.refl _ _⟩
  have hd : decide (4096 < n) = false := by simp; omega
  go_enter Tryz.func3, Tryz.ntmps3
  go_wp2_with fail
  refine (big_any ao n cap (by omega) _).mono ?_
  rw [hd]
  rintro e w1 ⟨rfl, hq⟩
  have hq' := hq.symm
  subst hq'
  clear hq
  go_wp2_with fail
  refine (drawCustomize_any ao n cap (by omega) _ hr).mono ?_
  rintro e w2 ⟨p, go, k, gc, po, m, pc, P, eo, q, ec, L, H, rfl, ⟨hk, hm, hq, hec⟩, hD, hB⟩
  obtain ⟨F, T, G, hR, hwf⟩ := hD.arcs.wft
  have hP := hD.ord
  have hE := hD.edg
  clear hD hwf
  have ha := ((Below.refl w2.heap.size w2).alloc (Nat.le_refl _) (.cells #[.int .i64 p, .slice go k gc] 26)).alloc (by simp) (.cells #[.slice po m pc, .slice eo q ec] 30)
  have g0 : ((w2.alloc (.cells #[.int .i64 p, .slice go k gc] 26)).alloc (.cells #[.slice po m pc, .slice eo q ec] 30)).cell? ⟨w2.heap.size, 0, none⟩ = some (.int .i64 p) := by simp [go_sem]
  have g1 : ((w2.alloc (.cells #[.int .i64 p, .slice go k gc] 26)).alloc (.cells #[.slice po m pc, .slice eo q ec] 30)).cell? ⟨w2.heap.size, 1, none⟩ = some (.slice go k gc) := by simp [go_sem]
  have h0 : ((w2.alloc (.cells #[.int .i64 p, .slice go k gc] 26)).alloc (.cells #[.slice po m pc, .slice eo q ec] 30)).cell? ⟨w2.heap.size + 1, 0, none⟩ = some (.slice po m pc) := by simp [go_sem]
  have h1 : ((w2.alloc (.cells #[.int .i64 p, .slice go k gc] 26)).alloc (.cells #[.slice po m pc, .slice eo q ec] 30)).cell? ⟨w2.heap.size + 1, 1, none⟩ = some (.slice eo q ec) := by simp [go_sem]
  replace hR := hR.below ha (Nat.le_refl _)
  replace hP := hP.below ha (Nat.le_refl _)
  replace hE := hE.below ha (Nat.le_refl _)
  have hszB := hB.size
  replace hB := hB.trans (ha.mono hszB)
  clear ha hszB
  obtain ⟨M, hM⟩ : ∃ M, lenM p k F T G m P q L H = M := ⟨_, rfl⟩
  obtain ⟨⟨CU, CD⟩, hC⟩ : ∃ D, cusT p k F T G P = D := ⟨_, rfl⟩
  have hM1 : M ≤ 1048576 := by rw [← hM]; have := lenM_le p k F T G m P q L H; omega
  obtain ⟨bh, hbh⟩ := bool_of (HOk p k F T G m P q L H)
  go_wp2_with fail
  generalize ((w2.alloc (.cells #[.int .i64 p, .slice go k gc] 26)).alloc (.cells #[.slice po m pc, .slice eo q ec] 30)) = W3 at hR hP hE hB g0 g1 h0 h1 ⊢
  obtain ⟨gb, hgb⟩ : ∃ gb, w2.heap.size = gb := ⟨_, rfl⟩
  obtain ⟨hb, hhb⟩ : ∃ hb, gb + 1 = hb := ⟨_, rfl⟩
  simp only [hgb] at g0 g1 h0 h1 ⊢
  simp only [hhb] at h0 h1 ⊢
  clear hgb hhb
  have hIC := implCustomize_any p go k gc F T G po m pc P eo q ec L H (by omega) (by omega) (by omega) W3 hR hP hE
  rw [hM, hC] at hIC
  refine hIC.mono ?_
  clear hIC
  intro e w4 hans
  obtain ⟨uo, uc, vo, vc, rfl, hU, hV, hb4⟩ := hans.rows
  clear hans
  have ha := (Below.refl w4.heap.size w4).alloc (Nat.le_refl _) (.cells #[.slice uo M uc, .slice vo M vc] 34)
  have hba := below_next hb4 (Nat.le_refl _) ha
  have m0 : (w4.alloc (.cells #[.slice uo M uc, .slice vo M vc] 34)).cell? ⟨w4.heap.size, 0, none⟩ = some (.slice uo M uc) := by simp [go_sem]
  have m1 : (w4.alloc (.cells #[.slice uo M uc, .slice vo M vc] 34)).cell? ⟨w4.heap.size, 1, none⟩ = some (.slice vo M vc) := by simp [go_sem]
  replace hR := hR.below hba (Nat.le_refl _)
  replace hP := hP.below hba (Nat.le_refl _)
  replace hE := hE.below hba (Nat.le_refl _)
  replace hU := hU.below ha (Nat.le_refl _)
  replace hV := hV.below ha (Nat.le_refl _)
  replace g0 := keep_cell hba (Nat.le_refl _) g0
  replace g1 := keep_cell hba (Nat.le_refl _) g1
  replace h0 := keep_cell hba (Nat.le_refl _) h0
  replace h1 := keep_cell hba (Nat.le_refl _) h1
  have hszB := hB.size
  replace hB := hB.trans (hba.mono hszB)
  clear ha hba hb4 hszB
  go_wp2_with fail
  generalize (w4.alloc (.cells #[.slice uo M uc, .slice vo M vc] 34)) = W5 at hR hP hE hU hV hB g0 g1 h0 h1 m0 m1 ⊢
  obtain ⟨mb, hmb⟩ : ∃ mb, w4.heap.size = mb := ⟨_, rfl⟩
  simp only [hmb] at m0 m1 ⊢
  clear hmb
  have hdr := (Below.refl W5.heap.size W5).drew
  replace hR := hR.below hdr (Nat.le_refl _)
  replace hP := hP.below hdr (Nat.le_refl _)
  replace hE := hE.below hdr (Nat.le_refl _)
  replace hU := hU.below hdr (Nat.le_refl _)
  replace hV := hV.below hdr (Nat.le_refl _)
  replace g0 := keep_cell hdr (Nat.le_refl _) g0
  replace g1 := keep_cell hdr (Nat.le_refl _) g1
  replace h0 := keep_cell hdr (Nat.le_refl _) h0
  replace h1 := keep_cell hdr (Nat.le_refl _) h1
  replace m0 := keep_cell hdr (Nat.le_refl _) m0
  replace m1 := keep_cell hdr (Nat.le_refl _) m1
  have hszB := hB.size
  replace hB := hB.trans (hdr.mono hszB)
  clear hdr hszB
  have HSC : Hid (∀ W, Below W5.drew.heap.size W5.drew W → Calls Tryz.prog 9 #[.agg #[.int .i64 p, .slice go k gc], .agg #[.slice po m pc, .slice eo q ec]] W fun e w' => ∃ uo2 uc2 vo2 vc2, e = .returned (.agg #[.slice uo2 M uc2, .slice vo2 M vc2]) ∧ IRow w' uo2 M CU ∧ IRow w' vo2 M CD ∧ Below W.heap.size W w') := fun W hA => by
    have := specCustomize_any p go k gc F T G po m pc P eo q ec L H (by omega) (by omega) (by omega) W (hR.below hA (Nat.le_refl _)) (hP.below hA (Nat.le_refl _)) (hE.below hA (Nat.le_refl _))
    rw [hM, hC] at this
    exact this.mono fun e w' h => h.rows
  have HIH : Hid (∀ W, Below W5.drew.heap.size W5.drew W → Calls Tryz.prog 10 #[.agg #[.int .i64 p, .slice go k gc], .agg #[.slice po m pc, .slice eo q ec]] W fun e w' => e = .returned (.bool bh) ∧ Below W.heap.size W w') := fun W hA =>
    (implHierOk_any p go k gc F T G po m pc P eo q ec L H (by omega) (by omega) (by omega) W (hR.below hA (Nat.le_refl _)) (hP.below hA (Nat.le_refl _)) (hE.below hA (Nat.le_refl _))).mono fun e w' h => ⟨h.1.is hbh, h.2⟩
  have HSH : Hid (∀ W, Below W5.drew.heap.size W5.drew W → Calls Tryz.prog 11 #[.agg #[.int .i64 p, .slice go k gc], .agg #[.slice po m pc, .slice eo q ec]] W fun e w' => e = .returned (.bool bh) ∧ Below W.heap.size W w') := fun W hA =>
    (specHierOk_any p go k gc F T G po m pc P eo q ec L H (by omega) (by omega) (by omega) W (hR.below hA (Nat.le_refl _)) (hP.below hA (Nat.le_refl _)) (hE.below hA (Nat.le_refl _))).mono fun e w' h => ⟨h.1.is hbh, h.2⟩
  obtain ⟨y1, hy1⟩ : ∃ y, lenO p k F T G = y := ⟨_, rfl⟩
  obtain ⟨Y1, hY1⟩ : ∃ y, listO p k F T = y := ⟨_, rfl⟩
  obtain ⟨y2, hy2⟩ : ∃ y, lenF p k F T G y1 Y1 = y := ⟨_, rfl⟩
  obtain ⟨YL, hYL⟩ : ∃ y, Lf (lstF p k F T Y1) = y := ⟨_, rfl⟩
  obtain ⟨YH, hYH⟩ : ∃ y, Hf (lstF p k F T Y1) = y := ⟨_, rfl⟩
  have hy1k : y1 ≤ 1048576 := by
    rw [← hy1]; unfold lenO; split
    · rename_i hgq; have := graphB_p hgq; simp [inB] at this; omega
    · omega
  have hy2k : y2 ≤ 1048576 := by
    rw [← hy2]; unfold lenF; split
    · rename_i hoq
      obtain ⟨_, hgq, _⟩ := ordB_parts hoq
      have hpp := graphB_p hgq
      simp [inB] at hpp
      unfold lstF
      have := allS_len (B := nbA F T k) (P := Y1) (show p.toNat ≤ 24 by omega) p.toNat
      omega
    · omega
  have HIN : Hid (∀ W, Below W5.drew.heap.size W5.drew W → Calls Tryz.prog 13 #[.agg #[.int .i64 p, .slice go k gc]] W fun e w' => ∃ ao2 ac2 eo2 ec2, e = .returned (.agg #[.slice ao2 y1 ac2, .slice eo2 y2 ec2]) ∧ IRow w' ao2 y1 Y1 ∧ ERow w' eo2 y2 YL YH ∧ Below W.heap.size W w') := fun W hA => by
    have := implNewHier_any p go k gc F T G (by omega) W (hR.below hA (Nat.le_refl _))
    rw [hY1, hy1, hy2, hYL, hYH] at this
    exact this.mono fun e w' h => h.rows
  have HSN : Hid (∀ W, Below W5.drew.heap.size W5.drew W → Calls Tryz.prog 14 #[.agg #[.int .i64 p, .slice go k gc]] W fun e w' => ∃ ao2 ac2 eo2 ec2, e = .returned (.agg #[.slice ao2 y1 ac2, .slice eo2 y2 ec2]) ∧ IRow w' ao2 y1 Y1 ∧ ERow w' eo2 y2 YL YH ∧ Below W.heap.size W w') := fun W hA => by
    have := specNewHier_any p go k gc F T G (by omega) W (hR.below hA (Nat.le_refl _))
    rw [hY1, hy1, hy2, hYL, hYH] at this
    exact this.mono fun e w' h => h.rows
  have HM0 : Hid (IRow W5.drew uo M CU ∧ IRow W5.drew vo M CD) := ⟨hU, hV⟩
  have HR0 : Hid (Row W5.drew go k F T G ∧ IRow W5.drew po m P ∧ ERow W5.drew eo q L H) := ⟨hR, hP, hE⟩
  have HBH : Hid (bh = true ↔ HOk p k F T G m P q L H) := hbh
  have HLM : Hid (lenM p k F T G m P q L H = M ∧ cusT p k F T G P = (CU, CD)) := ⟨hM, hC⟩
  have HYY : Hid (lenO p k F T G = y1 ∧ listO p k F T = Y1 ∧ lenF p k F T G y1 Y1 = y2 ∧ Lf (lstF p k F T Y1) = YL ∧ Hf (lstF p k F T Y1) = YH) := ⟨hy1, hY1, hy2, hYL, hYH⟩
  clear hU hV hR hP hE hbh hM hC hy1 hY1 hy2 hYL hYH
  have hA0 := Below.refl W5.drew.heap.size W5.drew
  go_region_held3 (fun w' => w'.cell? ⟨gb, 0, none⟩ = some (.int .i64 p) ∧ w'.cell? ⟨gb, 1, none⟩ = some (.slice go k gc) ∧ w'.cell? ⟨hb, 0, none⟩ = some (.slice po m pc) ∧ w'.cell? ⟨hb, 1, none⟩ = some (.slice eo q ec) ∧ w'.cell? ⟨mb, 0, none⟩ = some (.slice uo M uc) ∧ w'.cell? ⟨mb, 1, none⟩ = some (.slice vo M vc))
    (first
      | (refine ⟨?_, ?_, ?_, ?_, ?_, ?_⟩; exact keep_cell hA7 (Nat.le_refl _) g0; exact keep_cell hA7 (Nat.le_refl _) g1; exact keep_cell hA7 (Nat.le_refl _) h0; exact keep_cell hA7 (Nat.le_refl _) h1; exact keep_cell hA7 (Nat.le_refl _) m0; exact keep_cell hA7 (Nat.le_refl _) m1)
      | (refine ⟨?_, ?_, ?_, ?_, ?_, ?_⟩; exact keep_cell hA6 (Nat.le_refl _) g0; exact keep_cell hA6 (Nat.le_refl _) g1; exact keep_cell hA6 (Nat.le_refl _) h0; exact keep_cell hA6 (Nat.le_refl _) h1; exact keep_cell hA6 (Nat.le_refl _) m0; exact keep_cell hA6 (Nat.le_refl _) m1)
      | (refine ⟨?_, ?_, ?_, ?_, ?_, ?_⟩; exact keep_cell hA5 (Nat.le_refl _) g0; exact keep_cell hA5 (Nat.le_refl _) g1; exact keep_cell hA5 (Nat.le_refl _) h0; exact keep_cell hA5 (Nat.le_refl _) h1; exact keep_cell hA5 (Nat.le_refl _) m0; exact keep_cell hA5 (Nat.le_refl _) m1)
      | (refine ⟨?_, ?_, ?_, ?_, ?_, ?_⟩; exact keep_cell hA4 (Nat.le_refl _) g0; exact keep_cell hA4 (Nat.le_refl _) g1; exact keep_cell hA4 (Nat.le_refl _) h0; exact keep_cell hA4 (Nat.le_refl _) h1; exact keep_cell hA4 (Nat.le_refl _) m0; exact keep_cell hA4 (Nat.le_refl _) m1)
      | (refine ⟨?_, ?_, ?_, ?_, ?_, ?_⟩; exact keep_cell hA3 (Nat.le_refl _) g0; exact keep_cell hA3 (Nat.le_refl _) g1; exact keep_cell hA3 (Nat.le_refl _) h0; exact keep_cell hA3 (Nat.le_refl _) h1; exact keep_cell hA3 (Nat.le_refl _) m0; exact keep_cell hA3 (Nat.le_refl _) m1)
      | (refine ⟨?_, ?_, ?_, ?_, ?_, ?_⟩; exact keep_cell hA2 (Nat.le_refl _) g0; exact keep_cell hA2 (Nat.le_refl _) g1; exact keep_cell hA2 (Nat.le_refl _) h0; exact keep_cell hA2 (Nat.le_refl _) h1; exact keep_cell hA2 (Nat.le_refl _) m0; exact keep_cell hA2 (Nat.le_refl _) m1)
      | (refine ⟨?_, ?_, ?_, ?_, ?_, ?_⟩; exact keep_cell hA1 (Nat.le_refl _) g0; exact keep_cell hA1 (Nat.le_refl _) g1; exact keep_cell hA1 (Nat.le_refl _) h0; exact keep_cell hA1 (Nat.le_refl _) h1; exact keep_cell hA1 (Nat.le_refl _) m0; exact keep_cell hA1 (Nat.le_refl _) m1)
      | go_keep)
    (first
      | (go_at_call 9; with_reducible refine (HSC.out _ hA0).mono ?_; rintro e v1 ⟨uo2, uc2, vo2, vc2, rfl, i1, i2, b1⟩; have hA1 := below_next hA0 (Nat.le_refl _) b1)
      | (go_at_call 8; with_reducible refine (likeMetric_same uo vo uo2 vo2 M M uc vc uc2 vc2 CU CD hM1 hM1 _ (HM0.out.1.below hA1 (Nat.le_refl _)) (HM0.out.2.below hA1 (Nat.le_refl _)) i1 i2).mono ?_; rintro e v2 ⟨rfl, b2⟩; have hA2 := below_next hA1 (Nat.le_refl _) b2)
      | (go_at_call 10; with_reducible refine (HIH.out _ hA2).mono ?_; rintro e v3 ⟨rfl, b3⟩; have hA3 := below_next hA2 (Nat.le_refl _) b3)
      | (go_at_call 11; with_reducible refine (HSH.out _ hA3).mono ?_; rintro e v4 ⟨rfl, b4⟩; have hA4 := below_next hA3 (Nat.le_refl _) b4)
      | (go_at_call 13; with_reducible refine (HIN.out _ hA4).mono ?_; rintro e v5 ⟨ao3, ac3, eo3, ec3, rfl, i3, i4, b5⟩; have hA5 := below_next hA4 (Nat.le_refl _) b5)
      | (go_at_call 14; with_reducible refine (HSN.out _ hA5).mono ?_; rintro e v6 ⟨ao4, ac4, eo4, ec4, rfl, i5, i6, b6⟩; have hA6 := below_next hA5 (Nat.le_refl _) b6)
      | (go_at_call 12; with_reducible refine (likeHier_same ao3 eo3 ao4 eo4 y1 y2 ac3 ec3 ac4 ec4 Y1 YL YH hy1k hy2k _ (i3.below b6 (Nat.le_refl _)) (i4.below b6 (Nat.le_refl _)) i5 i6).mono ?_; rintro e v7 ⟨rfl, b7⟩; have hA7 := below_next hA6 (Nat.le_refl _) b7))
  have hszB := hB.size
  replace hB := hB.trans (hA7.mono hszB)
  have hZ := hA7
  clear hA0 hA1 hA2 hA3 hA4 hA5 hA6 hA7 b1 b2 b3 b4 b5 b6 b7 i1 i2 i3 i4 i5 i6 HSC HSH HSN hszB
  go_wp2_with fail
  refine (drawMetricOk_any ao n cap (by omega) _ (hr.up hB)).mono ?_
  rintro e w8 ⟨go', k', gc', po', m', pc', P', eo', q', ec', L', H', uo', u', uc', U', vo', v', vc', V', rfl, ⟨hm', hq', hec', hu', hv'⟩, hD, hb8⟩
  have hE' := hD.edg
  have hU' := hD.up
  have hV' := hD.dn
  clear hD
  have ha := ((Below.refl w8.heap.size w8).alloc (Nat.le_refl _) (.cells #[.slice po' m' pc', .slice eo' q' ec'] 30)).alloc (by simp) (.cells #[.slice uo' u' uc', .slice vo' v' vc'] 34)
  have c0 : ((w8.alloc (.cells #[.slice po' m' pc', .slice eo' q' ec'] 30)).alloc (.cells #[.slice uo' u' uc', .slice vo' v' vc'] 34)).cell? ⟨w8.heap.size, 0, none⟩ = some (.slice po' m' pc') := by simp [go_sem]
  have c1 : ((w8.alloc (.cells #[.slice po' m' pc', .slice eo' q' ec'] 30)).alloc (.cells #[.slice uo' u' uc', .slice vo' v' vc'] 34)).cell? ⟨w8.heap.size, 1, none⟩ = some (.slice eo' q' ec') := by simp [go_sem]
  have c2 : ((w8.alloc (.cells #[.slice po' m' pc', .slice eo' q' ec'] 30)).alloc (.cells #[.slice uo' u' uc', .slice vo' v' vc'] 34)).cell? ⟨w8.heap.size + 1, 0, none⟩ = some (.slice uo' u' uc') := by simp [go_sem]
  have c3 : ((w8.alloc (.cells #[.slice po' m' pc', .slice eo' q' ec'] 30)).alloc (.cells #[.slice uo' u' uc', .slice vo' v' vc'] 34)).cell? ⟨w8.heap.size + 1, 1, none⟩ = some (.slice vo' v' vc') := by simp [go_sem]
  have hba := below_next hb8 (Nat.le_refl _) ha
  have hszB := hB.size
  replace hB := hB.trans (hba.mono hszB)
  replace hZ := below_next hZ (Nat.le_refl _) hba
  replace hE' := hE'.below ha (Nat.le_refl _)
  replace hU' := hU'.below ha (Nat.le_refl _)
  replace hV' := hV'.below ha (Nat.le_refl _)
  clear ha hba hb8 hszB
  go_wp2_with fail
  generalize ((w8.alloc (.cells #[.slice po' m' pc', .slice eo' q' ec'] 30)).alloc (.cells #[.slice uo' u' uc', .slice vo' v' vc'] 34)) = W9 at hE' hU' hV' hB hZ c0 c1 c2 c3 ⊢
  obtain ⟨kb, hkb⟩ : ∃ kb, w8.heap.size = kb := ⟨_, rfl⟩
  obtain ⟨nb, hnb⟩ : ∃ nb, kb + 1 = nb := ⟨_, rfl⟩
  simp only [hkb] at c0 c1 c2 c3 ⊢
  simp only [hnb] at c2 c3 ⊢
  clear hkb hnb
  have hdr := (Below.refl W9.heap.size W9).drew
  replace hE' := hE'.below hdr (Nat.le_refl _)
  replace hU' := hU'.below hdr (Nat.le_refl _)
  replace hV' := hV'.below hdr (Nat.le_refl _)
  replace c0 := keep_cell hdr (Nat.le_refl _) c0
  replace c1 := keep_cell hdr (Nat.le_refl _) c1
  replace c2 := keep_cell hdr (Nat.le_refl _) c2
  replace c3 := keep_cell hdr (Nat.le_refl _) c3
  have hszB := hB.size
  replace hB := hB.trans (hdr.mono hszB)
  replace hZ := below_next hZ (Nat.le_refl _) hdr
  clear hdr hszB
  obtain ⟨bm, hbm⟩ := bool_of (MOk m' q' L' H' u' U' v' V')
  have HIM : Hid (∀ W, Below W9.drew.heap.size W9.drew W → Calls Tryz.prog 16 #[.agg #[.slice po' m' pc', .slice eo' q' ec'], .agg #[.slice uo' u' uc', .slice vo' v' vc']] W fun e w' => e = .returned (.bool bm) ∧ Below W.heap.size W w') := fun W hA =>
    (implMetricOk_any po' m' pc' P' eo' q' ec' L' H' uo' u' uc' U' vo' v' vc' V' (by omega) (by omega) hec' (by omega) (by omega) W (hE'.below hA (Nat.le_refl _)) (hU'.below hA (Nat.le_refl _)) (hV'.below hA (Nat.le_refl _))).mono fun e w' h => ⟨h.1.is hbm, h.2⟩
  have HSM : Hid (∀ W, Below W9.drew.heap.size W9.drew W → Calls Tryz.prog 17 #[.agg #[.slice po' m' pc', .slice eo' q' ec'], .agg #[.slice uo' u' uc', .slice vo' v' vc']] W fun e w' => e = .returned (.bool bm) ∧ Below W.heap.size W w') := fun W hA =>
    (specMetricOk_any po' m' pc' P' eo' q' ec' L' H' uo' u' uc' U' vo' v' vc' V' (by omega) (by omega) (by omega) (by omega) W (hE'.below hA (Nat.le_refl _)) (hU'.below hA (Nat.le_refl _)) (hV'.below hA (Nat.le_refl _))).mono fun e w' h => ⟨h.1.is hbm, h.2⟩
  clear hbm hE' hU' hV'
  have hA0 := Below.refl W9.drew.heap.size W9.drew
  go_region_held3 (fun w' => w'.cell? ⟨kb, 0, none⟩ = some (.slice po' m' pc') ∧ w'.cell? ⟨kb, 1, none⟩ = some (.slice eo' q' ec') ∧ w'.cell? ⟨nb, 0, none⟩ = some (.slice uo' u' uc') ∧ w'.cell? ⟨nb, 1, none⟩ = some (.slice vo' v' vc'))
    (first | (refine ⟨?_, ?_, ?_, ?_⟩; exact keep_cell hA2 (Nat.le_refl _) c0; exact keep_cell hA2 (Nat.le_refl _) c1; exact keep_cell hA2 (Nat.le_refl _) c2; exact keep_cell hA2 (Nat.le_refl _) c3) | (refine ⟨?_, ?_, ?_, ?_⟩; exact keep_cell hA1 (Nat.le_refl _) c0; exact keep_cell hA1 (Nat.le_refl _) c1; exact keep_cell hA1 (Nat.le_refl _) c2; exact keep_cell hA1 (Nat.le_refl _) c3) | go_keep)
    (first | (go_at_call 16; with_reducible refine (HIM.out _ hA0).mono ?_; rintro e v1 ⟨rfl, b1⟩; have hA1 := below_next hA0 (Nat.le_refl _) b1) | (go_at_call 17; with_reducible refine (HSM.out _ hA1).mono ?_; rintro e v2 ⟨rfl, b2⟩; have hA2 := below_next hA1 (Nat.le_refl _) b2))
  have hszB := hB.size
  replace hB := hB.trans (hA2.mono hszB)
  replace hZ := below_next hZ (Nat.le_refl _) hA2
  clear hA0 hA1 hA2 b1 b2 HIM HSM hszB c0 c1 c2 c3
  go_wp2_with fail
  refine (drawRecustomize_any ao n cap (by omega) _ (hr.up hB)).mono ?_
  clear hm' hq' hec' hu' hv'
  rintro e w10 ⟨p2, go2, k2, gc2, po2, m2, pc2, P2, eo2, q2, ec2, L2, H2, uo2, u2, uc2, U2, vo2, v2, vc2, V2, xo, x, xc, rfl, ⟨hk2, hm2, hq2, hec2, hu2, hv2, hx4⟩, hD, hX, hb10⟩
  obtain ⟨F2, T2, G2, hR2, _⟩ := hD.arcs.wft
  obtain ⟨A, B, C, hRX, hwX⟩ := hX.wft
  have hP2 := hD.ord
  have hE2 := hD.edg
  have hU2 := hD.up
  have hV2 := hD.dn
  clear hD hX
  have ha := (((Below.refl w10.heap.size w10).alloc (Nat.le_refl _) (.cells #[.int .i64 p2, .slice go2 k2 gc2] 26)).alloc (by simp) (.cells #[.slice po2 m2 pc2, .slice eo2 q2 ec2] 30)).alloc (by simp; omega) (.cells #[.slice uo2 u2 uc2, .slice vo2 v2 vc2] 34)
  have c0 : (((w10.alloc (.cells #[.int .i64 p2, .slice go2 k2 gc2] 26)).alloc (.cells #[.slice po2 m2 pc2, .slice eo2 q2 ec2] 30)).alloc (.cells #[.slice uo2 u2 uc2, .slice vo2 v2 vc2] 34)).cell? ⟨w10.heap.size, 0, none⟩ = some (.int .i64 p2) := by simp [go_sem]
  have c1 : (((w10.alloc (.cells #[.int .i64 p2, .slice go2 k2 gc2] 26)).alloc (.cells #[.slice po2 m2 pc2, .slice eo2 q2 ec2] 30)).alloc (.cells #[.slice uo2 u2 uc2, .slice vo2 v2 vc2] 34)).cell? ⟨w10.heap.size, 1, none⟩ = some (.slice go2 k2 gc2) := by simp [go_sem]
  have c2 : (((w10.alloc (.cells #[.int .i64 p2, .slice go2 k2 gc2] 26)).alloc (.cells #[.slice po2 m2 pc2, .slice eo2 q2 ec2] 30)).alloc (.cells #[.slice uo2 u2 uc2, .slice vo2 v2 vc2] 34)).cell? ⟨w10.heap.size + 1, 0, none⟩ = some (.slice po2 m2 pc2) := by simp [go_sem]
  have c3 : (((w10.alloc (.cells #[.int .i64 p2, .slice go2 k2 gc2] 26)).alloc (.cells #[.slice po2 m2 pc2, .slice eo2 q2 ec2] 30)).alloc (.cells #[.slice uo2 u2 uc2, .slice vo2 v2 vc2] 34)).cell? ⟨w10.heap.size + 1, 1, none⟩ = some (.slice eo2 q2 ec2) := by simp [go_sem]
  have c4 : (((w10.alloc (.cells #[.int .i64 p2, .slice go2 k2 gc2] 26)).alloc (.cells #[.slice po2 m2 pc2, .slice eo2 q2 ec2] 30)).alloc (.cells #[.slice uo2 u2 uc2, .slice vo2 v2 vc2] 34)).cell? ⟨w10.heap.size + 1 + 1, 0, none⟩ = some (.slice uo2 u2 uc2) := by simp [go_sem]
  have c5 : (((w10.alloc (.cells #[.int .i64 p2, .slice go2 k2 gc2] 26)).alloc (.cells #[.slice po2 m2 pc2, .slice eo2 q2 ec2] 30)).alloc (.cells #[.slice uo2 u2 uc2, .slice vo2 v2 vc2] 34)).cell? ⟨w10.heap.size + 1 + 1, 1, none⟩ = some (.slice vo2 v2 vc2) := by simp [go_sem]
  have hba := below_next hb10 (Nat.le_refl _) ha
  have hszB := hB.size
  replace hB := hB.trans (hba.mono hszB)
  replace hZ := below_next hZ (Nat.le_refl _) hba
  replace hR2 := hR2.below ha (Nat.le_refl _)
  replace hP2 := hP2.below ha (Nat.le_refl _)
  replace hE2 := hE2.below ha (Nat.le_refl _)
  replace hU2 := hU2.below ha (Nat.le_refl _)
  replace hV2 := hV2.below ha (Nat.le_refl _)
  replace hRX := hRX.below ha (Nat.le_refl _)
  clear ha hba hb10 hszB
  go_wp2_with fail
  generalize (((w10.alloc (.cells #[.int .i64 p2, .slice go2 k2 gc2] 26)).alloc (.cells #[.slice po2 m2 pc2, .slice eo2 q2 ec2] 30)).alloc (.cells #[.slice uo2 u2 uc2, .slice vo2 v2 vc2] 34)) = W11 at hR2 hP2 hE2 hU2 hV2 hRX hB hZ c0 c1 c2 c3 c4 c5 ⊢
  obtain ⟨ab, hab⟩ : ∃ ab, w10.heap.size = ab := ⟨_, rfl⟩
  obtain ⟨bb, hbb⟩ : ∃ bb, ab + 1 = bb := ⟨_, rfl⟩
  obtain ⟨cb, hcb⟩ : ∃ cb, bb + 1 = cb := ⟨_, rfl⟩
  simp only [hab] at c0 c1 c2 c3 c4 c5 ⊢
  simp only [hbb] at c2 c3 c4 c5 ⊢
  simp only [hcb] at c4 c5 ⊢
  clear hab hbb hcb
  obtain ⟨p', n', H', m'', CU2, CD2, ok, hrec⟩ := isRec_ex p2 k2 F2 T2 G2 m2 P2 q2 L2 H2 u2 U2 v2 V2 x A B C
  have hle := isRec_le hrec
  refine (implRecustomize_any p2 go2 k2 gc2 F2 T2 G2 po2 m2 pc2 P2 eo2 q2 ec2 L2 H2 uo2 u2 uc2 U2 vo2 v2 vc2 V2 xo x xc A B C (by omega) (by omega) (by omega) (by omega) (by omega) (by omega) hwX W11 hR2 hP2 hE2 hU2 hV2 hRX p' n' H' m'' CU2 CD2 ok hrec).mono ?_
  intro e w12 hans
  obtain ⟨yo, yc, zo, zc, so, sc, rfl, i1, i2, i3, b12⟩ := hans.rows
  clear hans
  have hSR := fun W h1 h2 h3 h4 h5 h6 => specRecustomize_any p2 go2 k2 gc2 F2 T2 G2 po2 m2 pc2 P2 eo2 q2 ec2 L2 H2 uo2 u2 uc2 U2 vo2 v2 vc2 V2 xo x xc A B C (by omega) (by omega) (by omega) (by omega) (by omega) (by omega) W h1 h2 h3 h4 h5 h6 p' n' H' m'' CU2 CD2 ok hrec
  have ha := ((Below.refl w12.heap.size w12).alloc (Nat.le_refl _) (.cells #[.int .i64 p', .slice yo n' yc] 26)).alloc (by simp) (.cells #[.slice zo m'' zc, .slice so m'' sc] 34)
  have x0 : ((w12.alloc (.cells #[.int .i64 p', .slice yo n' yc] 26)).alloc (.cells #[.slice zo m'' zc, .slice so m'' sc] 34)).cell? ⟨w12.heap.size, 0, none⟩ = some (.int .i64 p') := by simp [go_sem]
  have x1 : ((w12.alloc (.cells #[.int .i64 p', .slice yo n' yc] 26)).alloc (.cells #[.slice zo m'' zc, .slice so m'' sc] 34)).cell? ⟨w12.heap.size, 1, none⟩ = some (.slice yo n' yc) := by simp [go_sem]
  have x2 : ((w12.alloc (.cells #[.int .i64 p', .slice yo n' yc] 26)).alloc (.cells #[.slice zo m'' zc, .slice so m'' sc] 34)).cell? ⟨w12.heap.size + 1, 0, none⟩ = some (.slice zo m'' zc) := by simp [go_sem]
  have x3 : ((w12.alloc (.cells #[.int .i64 p', .slice yo n' yc] 26)).alloc (.cells #[.slice zo m'' zc, .slice so m'' sc] 34)).cell? ⟨w12.heap.size + 1, 1, none⟩ = some (.slice so m'' sc) := by simp [go_sem]
  have hba := below_next b12 (Nat.le_refl _) ha
  have hszB := hB.size
  replace hB := hB.trans (hba.mono hszB)
  replace hZ := below_next hZ (Nat.le_refl _) hba
  replace hR2 := hR2.below hba (Nat.le_refl _)
  replace hP2 := hP2.below hba (Nat.le_refl _)
  replace hE2 := hE2.below hba (Nat.le_refl _)
  replace hU2 := hU2.below hba (Nat.le_refl _)
  replace hV2 := hV2.below hba (Nat.le_refl _)
  replace hRX := hRX.below hba (Nat.le_refl _)
  replace c0 := keep_cell hba (Nat.le_refl _) c0
  replace c1 := keep_cell hba (Nat.le_refl _) c1
  replace c2 := keep_cell hba (Nat.le_refl _) c2
  replace c3 := keep_cell hba (Nat.le_refl _) c3
  replace c4 := keep_cell hba (Nat.le_refl _) c4
  replace c5 := keep_cell hba (Nat.le_refl _) c5
  replace i1 := i1.below ha (Nat.le_refl _)
  replace i2 := i2.below ha (Nat.le_refl _)
  replace i3 := i3.below ha (Nat.le_refl _)
  clear ha hba b12 hszB
  go_wp2_with fail
  generalize ((w12.alloc (.cells #[.int .i64 p', .slice yo n' yc] 26)).alloc (.cells #[.slice zo m'' zc, .slice so m'' sc] 34)) = W13 at hR2 hP2 hE2 hU2 hV2 hRX hB hZ c0 c1 c2 c3 c4 c5 x0 x1 x2 x3 i1 i2 i3 ⊢
  obtain ⟨xb, hxb⟩ : ∃ xb, w12.heap.size = xb := ⟨_, rfl⟩
  obtain ⟨yb, hyb⟩ : ∃ yb, xb + 1 = yb := ⟨_, rfl⟩
  simp only [hxb] at x0 x1 x2 x3 ⊢
  simp only [hyb] at x2 x3 ⊢
  clear hxb hyb
  refine (hSR W13 hR2 hP2 hE2 hU2 hV2 hRX).mono ?_
  clear hSR
  intro e w14 hans
  obtain ⟨yo2, yc2, zo2, zc2, so2, sc2, rfl, i4, i5, i6, b14⟩ := hans.rows
  clear hans
  have ha := ((Below.refl w14.heap.size w14).alloc (Nat.le_refl _) (.cells #[.int .i64 p', .slice yo2 n' yc2] 26)).alloc (by simp) (.cells #[.slice zo2 m'' zc2, .slice so2 m'' sc2] 34)
  have t0 : ((w14.alloc (.cells #[.int .i64 p', .slice yo2 n' yc2] 26)).alloc (.cells #[.slice zo2 m'' zc2, .slice so2 m'' sc2] 34)).cell? ⟨w14.heap.size, 0, none⟩ = some (.int .i64 p') := by simp [go_sem]
  have t1 : ((w14.alloc (.cells #[.int .i64 p', .slice yo2 n' yc2] 26)).alloc (.cells #[.slice zo2 m'' zc2, .slice so2 m'' sc2] 34)).cell? ⟨w14.heap.size, 1, none⟩ = some (.slice yo2 n' yc2) := by simp [go_sem]
  have t2 : ((w14.alloc (.cells #[.int .i64 p', .slice yo2 n' yc2] 26)).alloc (.cells #[.slice zo2 m'' zc2, .slice so2 m'' sc2] 34)).cell? ⟨w14.heap.size + 1, 0, none⟩ = some (.slice zo2 m'' zc2) := by simp [go_sem]
  have t3 : ((w14.alloc (.cells #[.int .i64 p', .slice yo2 n' yc2] 26)).alloc (.cells #[.slice zo2 m'' zc2, .slice so2 m'' sc2] 34)).cell? ⟨w14.heap.size + 1, 1, none⟩ = some (.slice so2 m'' sc2) := by simp [go_sem]
  have hba := below_next b14 (Nat.le_refl _) ha
  have hszB := hB.size
  replace hB := hB.trans (hba.mono hszB)
  replace hZ := below_next hZ (Nat.le_refl _) hba
  replace hP2 := hP2.below hba (Nat.le_refl _)
  replace hE2 := hE2.below hba (Nat.le_refl _)
  replace c2 := keep_cell hba (Nat.le_refl _) c2
  replace c3 := keep_cell hba (Nat.le_refl _) c3
  replace x0 := keep_cell hba (Nat.le_refl _) x0
  replace x1 := keep_cell hba (Nat.le_refl _) x1
  replace x2 := keep_cell hba (Nat.le_refl _) x2
  replace x3 := keep_cell hba (Nat.le_refl _) x3
  replace i1 := i1.below hba (Nat.le_refl _)
  replace i2 := i2.below hba (Nat.le_refl _)
  replace i3 := i3.below hba (Nat.le_refl _)
  replace i4 := i4.below ha (Nat.le_refl _)
  replace i5 := i5.below ha (Nat.le_refl _)
  replace i6 := i6.below ha (Nat.le_refl _)
  clear ha hba b14 hszB hR2 hU2 hV2 hRX c0 c1 c4 c5
  go_wp2_with fail
  generalize ((w14.alloc (.cells #[.int .i64 p', .slice yo2 n' yc2] 26)).alloc (.cells #[.slice zo2 m'' zc2, .slice so2 m'' sc2] 34)) = W15 at hP2 hE2 hB hZ c2 c3 x0 x1 x2 x3 t0 t1 t2 t3 i1 i2 i3 i4 i5 i6 ⊢
  obtain ⟨ub, hub⟩ : ∃ ub, w14.heap.size = ub := ⟨_, rfl⟩
  obtain ⟨vb, hvb⟩ : ∃ vb, ub + 1 = vb := ⟨_, rfl⟩
  simp only [hub] at t0 t1 t2 t3 ⊢
  simp only [hvb] at t2 t3 ⊢
  clear hub hvb
  have hY := Below.refl W15.heap.size W15
  refine (likeGraph_same p' yo yo2 n' yc yc2 F2 T2 H' (by omega) W15 i1 i4).mono ?_
  rintro e v1 ⟨rfl, b1⟩
  replace hY := below_next hY (Nat.le_refl _) b1
  have y0 := keep_cell hY (Nat.le_refl _) x2
  have y1' := keep_cell hY (Nat.le_refl _) x3
  have y2' := keep_cell hY (Nat.le_refl _) t2
  have y3 := keep_cell hY (Nat.le_refl _) t3
  go_wp2_with fail
  refine (likeMetric_same zo so zo2 so2 m'' m'' zc sc zc2 sc2 CU2 CD2 (by omega) (by omega) _ (i2.below hY (Nat.le_refl _)) (i3.below hY (Nat.le_refl _)) (i5.below hY (Nat.le_refl _)) (i6.below hY (Nat.le_refl _))).mono ?_
  rintro e wv2 ⟨rfl, b2⟩
  replace hY := below_next hY (Nat.le_refl _) b2
  clear y0 y1' y2' y3 t0 t1 t2 t3 i4 i5 i6 b1 b2
  have hszB := hB.size
  replace hB := hB.trans (hY.mono hszB)
  replace hZ := below_next hZ (Nat.le_refl _) hY
  clear hszB
  replace hP2 := hP2.below hY (Nat.le_refl _)
  replace hE2 := hE2.below hY (Nat.le_refl _)
  replace i1 := i1.below hY (Nat.le_refl _)
  replace i2 := i2.below hY (Nat.le_refl _)
  replace i3 := i3.below hY (Nat.le_refl _)
  replace c2 := keep_cell hY (Nat.le_refl _) c2
  replace c3 := keep_cell hY (Nat.le_refl _) c3
  replace x0 := keep_cell hY (Nat.le_refl _) x0
  replace x1 := keep_cell hY (Nat.le_refl _) x1
  replace x2 := keep_cell hY (Nat.le_refl _) x2
  replace x3 := keep_cell hY (Nat.le_refl _) x3
  clear hY
  cases ok
  · go_wp2_with fail
    go_quiet (fail)
    replace hB := below_drewN hB nq
    replace hZ := below_drewN hZ nq
    go_wp2_with fail
    generalize wv2.drewN nq = wq at hB hZ ⊢
    have hdr := (Below.refl wq.heap.size wq).drew
    have hszB := hB.size
    replace hB := hB.trans (hdr.mono hszB)
    replace hZ := below_next hZ (Nat.le_refl _) hdr
    clear hdr hszB
    have k0 := keep_cell hZ (Nat.le_refl _) g0
    have k1 := keep_cell hZ (Nat.le_refl _) g1
    have k2 := keep_cell hZ (Nat.le_refl _) h0
    have k3 := keep_cell hZ (Nat.le_refl _) h1
    have k4 := keep_cell hZ (Nat.le_refl _) m0
    have k5 := keep_cell hZ (Nat.le_refl _) m1
    cases bh
    · refine wp_region_held_drew (S := fun w' => w'.cell? ⟨gb, 0, none⟩ = some (.int .i64 p) ∧ w'.cell? ⟨gb, 1, none⟩ = some (.slice go k gc) ∧ w'.cell? ⟨hb, 0, none⟩ = some (.slice po m pc) ∧ w'.cell? ⟨hb, 1, none⟩ = some (.slice eo q ec) ∧ w'.cell? ⟨mb, 0, none⟩ = some (.slice uo M uc) ∧ w'.cell? ⟨mb, 1, none⟩ = some (.slice vo M vc)) (by kernel_rfl) ⟨k0, k1, k2, k3, k4, k5⟩ (fun hS => ?_)
      refine takeH 0 (some 118) (.agg #[.int .i64 p, .slice go k gc]) rfl rfl (by kernel_rfl) (by kernel_rfl) (by kernel_rfl) (fun _ _ _ h => h) (by rfl) hS (fun w hSw => by go_split_ands; go_simp <;> first | rfl | omega | (intro h; exfalso; omega)) ?_
      simp only [Act.put, List.setIfInBounds_toArray, List.set_cons_zero, List.set_cons_succ]
      refine takeH 1 (some 119) (.agg #[.slice po m pc, .slice eo q ec]) rfl rfl (by kernel_rfl) (by kernel_rfl) (by kernel_rfl) (fun _ _ _ h => h) (by rfl) hS (fun w hSw => by go_split_ands; go_simp <;> first | rfl | omega | (intro h; exfalso; omega)) ?_
      simp only [Act.put, List.setIfInBounds_toArray, List.set_cons_zero, List.set_cons_succ]
      refine step1H 2 _ rfl (by kernel_rfl) (by rfl) ?_
      go_simp
      refine (HIH.out _ hZ).mono ?_
      rintro e v11 ⟨rfl, b11⟩
      have hZ1 := below_next hZ (Nat.le_refl _) b11
      refine ⟨⟨keep_cell hZ1 (Nat.le_refl _) g0, keep_cell hZ1 (Nat.le_refl _) g1, keep_cell hZ1 (Nat.le_refl _) h0, keep_cell hZ1 (Nat.le_refl _) h1, keep_cell hZ1 (Nat.le_refl _) m0, keep_cell hZ1 (Nat.le_refl _) m1⟩, ?_⟩
      have hS1 : (fun w' => w'.cell? ⟨gb, 0, none⟩ = some (.int .i64 p) ∧ w'.cell? ⟨gb, 1, none⟩ = some (.slice go k gc) ∧ w'.cell? ⟨hb, 0, none⟩ = some (.slice po m pc) ∧ w'.cell? ⟨hb, 1, none⟩ = some (.slice eo q ec) ∧ w'.cell? ⟨mb, 0, none⟩ = some (.slice uo M uc) ∧ w'.cell? ⟨mb, 1, none⟩ = some (.slice vo M vc)) v11 := ⟨keep_cell hZ1 (Nat.le_refl _) g0, keep_cell hZ1 (Nat.le_refl _) g1, keep_cell hZ1 (Nat.le_refl _) h0, keep_cell hZ1 (Nat.le_refl _) h1, keep_cell hZ1 (Nat.le_refl _) m0, keep_cell hZ1 (Nat.le_refl _) m1⟩
      refine takeH 3 (some 121) (.bool true) rfl rfl (by kernel_rfl) (by kernel_rfl) (by kernel_rfl) (fun _ _ _ h => h) (by rfl) hS1 (fun w hSw => by go_split_ands; go_simp <;> first | rfl | omega | (intro h; exfalso; omega)) ?_
      simp only [Act.put, List.setIfInBounds_toArray, List.set_cons_zero, List.set_cons_succ]
      refine takeH 4 (some 122) (.bool true) rfl rfl (by kernel_rfl) (by kernel_rfl) (by kernel_rfl) (fun _ _ _ h => h) (by rfl) hS1 (fun w hSw => by go_split_ands; go_simp <;> first | rfl | omega | (intro h; exfalso; omega)) ?_
      simp only [Act.put, List.setIfInBounds_toArray, List.set_cons_zero, List.set_cons_succ]
      refine skipH 5 (some 123) rfl rfl (by kernel_rfl) (by kernel_rfl) (by kernel_rfl) (fun _ _ _ h => h) (by rfl) hS1 ?_
      simp only [Act.put, List.setIfInBounds_toArray, List.set_cons_zero, List.set_cons_succ]
      refine skipH 6 (some 124) rfl rfl (by kernel_rfl) (by kernel_rfl) (by kernel_rfl) (fun _ _ _ h => h) (by rfl) hS1 ?_
      simp only [Act.put, List.setIfInBounds_toArray, List.set_cons_zero, List.set_cons_succ]
      refine skipH 7 (some 125) rfl rfl (by kernel_rfl) (by kernel_rfl) (by kernel_rfl) (fun _ _ _ h => h) (by rfl) hS1 ?_
      simp only [Act.put, List.setIfInBounds_toArray, List.set_cons_zero, List.set_cons_succ]
      refine skipH 8 (some 126) rfl rfl (by kernel_rfl) (by kernel_rfl) (by kernel_rfl) (fun _ _ _ h => h) (by rfl) hS1 ?_
      simp only [Act.put, List.setIfInBounds_toArray, List.set_cons_zero, List.set_cons_succ]
      refine skipH 9 (some 127) rfl rfl (by kernel_rfl) (by kernel_rfl) (by kernel_rfl) (fun _ _ _ h => h) (by rfl) hS1 ?_
      simp only [Act.put, List.setIfInBounds_toArray, List.set_cons_zero, List.set_cons_succ]
      refine skipH 10 (some 128) rfl rfl (by kernel_rfl) (by kernel_rfl) (by kernel_rfl) (fun _ _ _ h => h) (by rfl) hS1 ?_
      simp only [Act.put, List.setIfInBounds_toArray, List.set_cons_zero, List.set_cons_succ]
      refine skipH 11 (some 129) rfl rfl (by kernel_rfl) (by kernel_rfl) (by kernel_rfl) (fun _ _ _ h => h) (by rfl) hS1 ?_
      simp only [Act.put, List.setIfInBounds_toArray, List.set_cons_zero, List.set_cons_succ]
      refine skipH 12 (some 130) rfl rfl (by kernel_rfl) (by kernel_rfl) (by kernel_rfl) (fun _ _ _ h => h) (by rfl) hS1 ?_
      simp only [Act.put, List.setIfInBounds_toArray, List.set_cons_zero, List.set_cons_succ]
      refine skipH 13 (some 131) rfl rfl (by kernel_rfl) (by kernel_rfl) (by kernel_rfl) (fun _ _ _ h => h) (by rfl) hS1 ?_
      simp only [Act.put, List.setIfInBounds_toArray, List.set_cons_zero, List.set_cons_succ]
      refine takeH 14 (some 132) (.bool true) rfl rfl (by kernel_rfl) (by kernel_rfl) (by kernel_rfl) (fun _ _ _ h => h) (by rfl) hS1 (fun w hSw => by go_split_ands; go_simp <;> first | rfl | omega | (intro h; exfalso; omega)) ?_
      simp only [Act.put, List.setIfInBounds_toArray, List.set_cons_zero, List.set_cons_succ]
      refine takeH 15 (some 2) (.bool true) rfl rfl (by kernel_rfl) (by kernel_rfl) (by kernel_rfl) (fun _ _ _ h => h) (by rfl) hS1 (fun w hSw => by go_split_ands; go_simp <;> first | rfl | omega | (intro h; exfalso; omega)) ?_
      simp only [Act.put, List.setIfInBounds_toArray, List.set_cons_zero, List.set_cons_succ]
      refine wpAnyH_done (by kernel_rfl) ?_ _
      go_wp2
      go_ret
      exact ⟨rfl, hB.trans (b11.mono hB.size)⟩
    · have hok := HBH.out.1 rfl
      have hMq : M = q := by rw [← HLM.out.1]; exact lenM_yes hok
      have hgr : graphB p k F T G = true := (ordB_parts hok.1).2.1
      have HMF : Hid (∀ W, Below W5.drew.heap.size W5.drew W → Calls Tryz.prog 16 #[.agg #[.slice po m pc, .slice eo q ec], .agg #[.slice uo M uc, .slice vo M vc]] W fun e w' => e = .returned (.bool true) ∧ Below W.heap.size W w') := fun W hA =>
        (implMetricOk_any po m pc P eo q ec (Lf (lstF p k F T P)) (Hf (lstF p k F T P)) uo M uc CU vo M vc CD (by omega) (by omega) hec (by omega) (by omega) W ((HR0.out.2.2.below hA (Nat.le_refl _)).congr (fun i hi => ((hok_len hok).2 i hi).1) (fun i hi => ((hok_len hok).2 i hi).2)) (HM0.out.1.below hA (Nat.le_refl _)) (HM0.out.2.below hA (Nat.le_refl _))).mono fun e w' h => ⟨h.1.is (iff_of_true rfl (by rw [hMq]; exact hok_mok hok HLM.out.2)), h.2⟩
      have HHN : Hid (∀ W ao3 ac3 eo3 ec3, Below W5.drew.heap.size W5.drew W → IRow W ao3 y1 Y1 → ERow W eo3 y2 YL YH → Calls Tryz.prog 10 #[.agg #[.int .i64 p, .slice go k gc], .agg #[.slice ao3 y1 ac3, .slice eo3 y2 ec3]] W fun e w' => e = .returned (.bool true) ∧ Below W.heap.size W w') := fun W ao3 ac3 eo3 ec3 hA h1 h2 =>
        (implHierOk_any p go k gc F T G ao3 y1 ac3 Y1 eo3 y2 ec3 YL YH (by omega) hy1k hy2k W (HR0.out.1.below hA (Nat.le_refl _)) h1 h2).mono fun e w' h => ⟨h.1.is (iff_of_true rfl (by
          obtain ⟨e1, e2, e3, e4, e5⟩ := HYY.out
          refine ⟨by rw [← e1, ← e2]; exact order_ok hgr, e3.symm, fun i hi => ?_⟩
          rw [← e4, ← e5]
          exact ⟨rfl, rfl⟩)), h.2⟩
      clear hok hMq hgr
      go_region_held3 (fun w' => w'.cell? ⟨gb, 0, none⟩ = some (.int .i64 p) ∧ w'.cell? ⟨gb, 1, none⟩ = some (.slice go k gc) ∧ w'.cell? ⟨hb, 0, none⟩ = some (.slice po m pc) ∧ w'.cell? ⟨hb, 1, none⟩ = some (.slice eo q ec) ∧ w'.cell? ⟨mb, 0, none⟩ = some (.slice uo M uc) ∧ w'.cell? ⟨mb, 1, none⟩ = some (.slice vo M vc))
        (first
          | (refine ⟨?_, ?_, ?_, ?_, ?_, ?_⟩; exact keep_cell hZ4 (Nat.le_refl _) g0; exact keep_cell hZ4 (Nat.le_refl _) g1; exact keep_cell hZ4 (Nat.le_refl _) h0; exact keep_cell hZ4 (Nat.le_refl _) h1; exact keep_cell hZ4 (Nat.le_refl _) m0; exact keep_cell hZ4 (Nat.le_refl _) m1)
          | (refine ⟨?_, ?_, ?_, ?_, ?_, ?_⟩; exact keep_cell hZ3 (Nat.le_refl _) g0; exact keep_cell hZ3 (Nat.le_refl _) g1; exact keep_cell hZ3 (Nat.le_refl _) h0; exact keep_cell hZ3 (Nat.le_refl _) h1; exact keep_cell hZ3 (Nat.le_refl _) m0; exact keep_cell hZ3 (Nat.le_refl _) m1)
          | (refine ⟨?_, ?_, ?_, ?_, ?_, ?_⟩; exact keep_cell hZ2 (Nat.le_refl _) g0; exact keep_cell hZ2 (Nat.le_refl _) g1; exact keep_cell hZ2 (Nat.le_refl _) h0; exact keep_cell hZ2 (Nat.le_refl _) h1; exact keep_cell hZ2 (Nat.le_refl _) m0; exact keep_cell hZ2 (Nat.le_refl _) m1)
          | (refine ⟨?_, ?_, ?_, ?_, ?_, ?_⟩; exact keep_cell hZ1 (Nat.le_refl _) g0; exact keep_cell hZ1 (Nat.le_refl _) g1; exact keep_cell hZ1 (Nat.le_refl _) h0; exact keep_cell hZ1 (Nat.le_refl _) h1; exact keep_cell hZ1 (Nat.le_refl _) m0; exact keep_cell hZ1 (Nat.le_refl _) m1)
          | go_keep)
        (first
          | (go_at_call 10; with_reducible refine (HHN.out _ ao3 ac3 eo3 ec3 hZ3 i7 i8).mono ?_; rintro e v14 ⟨rfl, b14⟩; have hZ4 := below_next hZ3 (Nat.le_refl _) b14)
          | (go_at_call 10; with_reducible refine (HIH.out _ hZ).mono ?_; rintro e v11 ⟨rfl, b11⟩; have hZ1 := below_next hZ (Nat.le_refl _) b11)
          | (go_at_call 16; with_reducible refine (HMF.out _ hZ1).mono ?_; rintro e v12 ⟨rfl, b12⟩; have hZ2 := below_next hZ1 (Nat.le_refl _) b12)
          | (go_at_call 13; with_reducible refine (HIN.out _ hZ2).mono ?_; rintro e v13 ⟨ao3, ac3, eo3, ec3, rfl, i7, i8, b13⟩; have hZ3 := below_next hZ2 (Nat.le_refl _) b13))
      go_wp2
      go_ret
      exact ⟨rfl, hB.trans ((below_next (below_next (below_next b11 (Nat.le_refl _) b12) (Nat.le_refl _) b13) (Nat.le_refl _) b14).mono hB.size)⟩
  · go_wp2_with fail
    obtain ⟨hres, hrc, ep, en, em, hcus⟩ : resOf p2 k2 F2 T2 G2 x A B C = some H' ∧ RcOk p2 k2 F2 T2 G2 m2 P2 q2 L2 H2 u2 U2 v2 V2 true ∧ p' = p2 ∧ n' = k2 ∧ m'' = q2 ∧ cusT p2 k2 F2 T2 H' P2 = (CU2, CD2) := by
      rcases hrec with ⟨h1, h2, h3, h4, h5, h6, _⟩ | ⟨_, _, _, _, h⟩
      · exact ⟨h1, h2, h3, h4, h5, h6⟩
      · cases h
    have hok := hok_rw hrc.2.1 (res_ok hres)
    have hdr := (Below.refl wv2.heap.size wv2).drew
    have hszB := hB.size
    replace hB := hB.trans (hdr.mono hszB)
    replace hZ := below_next hZ (Nat.le_refl _) hdr
    replace i1 := i1.below hdr (Nat.le_refl _)
    replace i2 := i2.below hdr (Nat.le_refl _)
    replace i3 := i3.below hdr (Nat.le_refl _)
    replace hP2 := hP2.below hdr (Nat.le_refl _)
    replace hE2 := hE2.below hdr (Nat.le_refl _)
    replace c2 := keep_cell hdr (Nat.le_refl _) c2
    replace c3 := keep_cell hdr (Nat.le_refl _) c3
    replace x0 := keep_cell hdr (Nat.le_refl _) x0
    replace x1 := keep_cell hdr (Nat.le_refl _) x1
    replace x2 := keep_cell hdr (Nat.le_refl _) x2
    replace x3 := keep_cell hdr (Nat.le_refl _) x3
    clear hdr hszB
    have HCX : Hid (∀ W, Below wv2.drew.heap.size wv2.drew W → Calls Tryz.prog 7 #[.agg #[.int .i64 p', .slice yo n' yc], .agg #[.slice po2 m2 pc2, .slice eo2 q2 ec2]] W fun e w' => ∃ uo3 uc3 vo3 vc3, e = .returned (.agg #[.slice uo3 m'' uc3, .slice vo3 m'' vc3]) ∧ IRow w' uo3 m'' CU2 ∧ IRow w' vo3 m'' CD2 ∧ Below W.heap.size W w') := fun W hA => by
      rw [en] at i1
      have := implCustomize_any p2 yo k2 yc F2 T2 H' po2 m2 pc2 P2 eo2 q2 ec2 L2 H2 (by omega) (by omega) (by omega) W (i1.below hA (Nat.le_refl _)) (hP2.below hA (Nat.le_refl _)) (hE2.below hA (Nat.le_refl _))
      rw [lenM_yes hok, hcus] at this
      rw [ep, en, em]
      exact this.mono fun e w' h => h.rows
    have HMX : Hid (∀ W, Below wv2.drew.heap.size wv2.drew W → Calls Tryz.prog 16 #[.agg #[.slice po2 m2 pc2, .slice eo2 q2 ec2], .agg #[.slice zo m'' zc, .slice so m'' sc]] W fun e w' => e = .returned (.bool true) ∧ Below W.heap.size W w') := fun W hA =>
      (implMetricOk_any po2 m2 pc2 P2 eo2 q2 ec2 (Lf (lstF p2 k2 F2 T2 P2)) (Hf (lstF p2 k2 F2 T2 P2)) zo m'' zc CU2 so m'' sc CD2 (by omega) (by omega) hec2 (by omega) (by omega) W ((hE2.below hA (Nat.le_refl _)).congr (fun i hi => ((hok_len hok).2 i hi).1) (fun i hi => ((hok_len hok).2 i hi).2)) (i2.below hA (Nat.le_refl _)) (i3.below hA (Nat.le_refl _))).mono fun e w' h => ⟨h.1.is (iff_of_true rfl (by rw [em]; exact hok_mok hok hcus)), h.2⟩
    have HI2 : Hid (IRow wv2.drew zo m'' CU2 ∧ IRow wv2.drew so m'' CD2) := ⟨i2, i3⟩
    have hm9 : m'' ≤ 1048576 := by omega
    clear hres hrc ep en em hcus hok hP2 hE2 i1 i2 i3 hrec hle
    have hA0 := Below.refl wv2.drew.heap.size wv2.drew
    go_region_held3 (fun w' => w'.cell? ⟨bb, 0, none⟩ = some (.slice po2 m2 pc2) ∧ w'.cell? ⟨bb, 1, none⟩ = some (.slice eo2 q2 ec2) ∧ w'.cell? ⟨xb, 0, none⟩ = some (.int .i64 p') ∧ w'.cell? ⟨xb, 1, none⟩ = some (.slice yo n' yc) ∧ w'.cell? ⟨yb, 0, none⟩ = some (.slice zo m'' zc) ∧ w'.cell? ⟨yb, 1, none⟩ = some (.slice so m'' sc))
      (first
        | (refine ⟨?_, ?_, ?_, ?_, ?_, ?_⟩; exact keep_cell hA3 (Nat.le_refl _) c2; exact keep_cell hA3 (Nat.le_refl _) c3; exact keep_cell hA3 (Nat.le_refl _) x0; exact keep_cell hA3 (Nat.le_refl _) x1; exact keep_cell hA3 (Nat.le_refl _) x2; exact keep_cell hA3 (Nat.le_refl _) x3)
        | (refine ⟨?_, ?_, ?_, ?_, ?_, ?_⟩; exact keep_cell hA2 (Nat.le_refl _) c2; exact keep_cell hA2 (Nat.le_refl _) c3; exact keep_cell hA2 (Nat.le_refl _) x0; exact keep_cell hA2 (Nat.le_refl _) x1; exact keep_cell hA2 (Nat.le_refl _) x2; exact keep_cell hA2 (Nat.le_refl _) x3)
        | (refine ⟨?_, ?_, ?_, ?_, ?_, ?_⟩; exact keep_cell hA1 (Nat.le_refl _) c2; exact keep_cell hA1 (Nat.le_refl _) c3; exact keep_cell hA1 (Nat.le_refl _) x0; exact keep_cell hA1 (Nat.le_refl _) x1; exact keep_cell hA1 (Nat.le_refl _) x2; exact keep_cell hA1 (Nat.le_refl _) x3)
        | go_keep)
      (first
        | (go_at_call 7; with_reducible refine (HCX.out _ hA0).mono ?_; rintro e v3 ⟨uo3, uc3, vo3, vc3, rfl, j1, j2, b3⟩; have hA1 := below_next hA0 (Nat.le_refl _) b3)
        | (go_at_call 8; with_reducible refine (likeMetric_same zo so uo3 vo3 m'' m'' zc sc uc3 vc3 CU2 CD2 hm9 hm9 _ (HI2.out.1.below hA1 (Nat.le_refl _)) (HI2.out.2.below hA1 (Nat.le_refl _)) j1 j2).mono ?_; rintro e v4 ⟨rfl, b4⟩; have hA2 := below_next hA1 (Nat.le_refl _) b4)
        | (go_at_call 16; with_reducible refine (HMX.out _ hA2).mono ?_; rintro e v5 ⟨rfl, b5⟩; have hA3 := below_next hA2 (Nat.le_refl _) b5))
    have hszB := hB.size
    replace hB := hB.trans (hA3.mono hszB)
    replace hZ := below_next hZ (Nat.le_refl _) hA3
    clear hA0 hA1 hA2 hA3 b3 b4 b5 j1 j2 HCX HMX HI2 hszB c2 c3 x0 x1 x2 x3
    go_wp2_with fail
    have hdr := (Below.refl v5.heap.size v5).drew
    have hszB := hB.size
    replace hB := hB.trans (hdr.mono hszB)
    replace hZ := below_next hZ (Nat.le_refl _) hdr
    clear hdr hszB
    have k0 := keep_cell hZ (Nat.le_refl _) g0
    have k1 := keep_cell hZ (Nat.le_refl _) g1
    have k2 := keep_cell hZ (Nat.le_refl _) h0
    have k3 := keep_cell hZ (Nat.le_refl _) h1
    have k4 := keep_cell hZ (Nat.le_refl _) m0
    have k5 := keep_cell hZ (Nat.le_refl _) m1
    cases bh
    · refine wp_region_held_drew (S := fun w' => w'.cell? ⟨gb, 0, none⟩ = some (.int .i64 p) ∧ w'.cell? ⟨gb, 1, none⟩ = some (.slice go k gc) ∧ w'.cell? ⟨hb, 0, none⟩ = some (.slice po m pc) ∧ w'.cell? ⟨hb, 1, none⟩ = some (.slice eo q ec) ∧ w'.cell? ⟨mb, 0, none⟩ = some (.slice uo M uc) ∧ w'.cell? ⟨mb, 1, none⟩ = some (.slice vo M vc)) (by kernel_rfl) ⟨k0, k1, k2, k3, k4, k5⟩ (fun hS => ?_)
      refine takeH 0 (some 118) (.agg #[.int .i64 p, .slice go k gc]) rfl rfl (by kernel_rfl) (by kernel_rfl) (by kernel_rfl) (fun _ _ _ h => h) (by rfl) hS (fun w hSw => by go_split_ands; go_simp <;> first | rfl | omega | (intro h; exfalso; omega)) ?_
      simp only [Act.put, List.setIfInBounds_toArray, List.set_cons_zero, List.set_cons_succ]
      refine takeH 1 (some 119) (.agg #[.slice po m pc, .slice eo q ec]) rfl rfl (by kernel_rfl) (by kernel_rfl) (by kernel_rfl) (fun _ _ _ h => h) (by rfl) hS (fun w hSw => by go_split_ands; go_simp <;> first | rfl | omega | (intro h; exfalso; omega)) ?_
      simp only [Act.put, List.setIfInBounds_toArray, List.set_cons_zero, List.set_cons_succ]
      refine step1H 2 _ rfl (by kernel_rfl) (by rfl) ?_
      go_simp
      refine (HIH.out _ hZ).mono ?_
      rintro e v11 ⟨rfl, b11⟩
      have hZ1 := below_next hZ (Nat.le_refl _) b11
      refine ⟨⟨keep_cell hZ1 (Nat.le_refl _) g0, keep_cell hZ1 (Nat.le_refl _) g1, keep_cell hZ1 (Nat.le_refl _) h0, keep_cell hZ1 (Nat.le_refl _) h1, keep_cell hZ1 (Nat.le_refl _) m0, keep_cell hZ1 (Nat.le_refl _) m1⟩, ?_⟩
      have hS1 : (fun w' => w'.cell? ⟨gb, 0, none⟩ = some (.int .i64 p) ∧ w'.cell? ⟨gb, 1, none⟩ = some (.slice go k gc) ∧ w'.cell? ⟨hb, 0, none⟩ = some (.slice po m pc) ∧ w'.cell? ⟨hb, 1, none⟩ = some (.slice eo q ec) ∧ w'.cell? ⟨mb, 0, none⟩ = some (.slice uo M uc) ∧ w'.cell? ⟨mb, 1, none⟩ = some (.slice vo M vc)) v11 := ⟨keep_cell hZ1 (Nat.le_refl _) g0, keep_cell hZ1 (Nat.le_refl _) g1, keep_cell hZ1 (Nat.le_refl _) h0, keep_cell hZ1 (Nat.le_refl _) h1, keep_cell hZ1 (Nat.le_refl _) m0, keep_cell hZ1 (Nat.le_refl _) m1⟩
      refine takeH 3 (some 121) (.bool true) rfl rfl (by kernel_rfl) (by kernel_rfl) (by kernel_rfl) (fun _ _ _ h => h) (by rfl) hS1 (fun w hSw => by go_split_ands; go_simp <;> first | rfl | omega | (intro h; exfalso; omega)) ?_
      simp only [Act.put, List.setIfInBounds_toArray, List.set_cons_zero, List.set_cons_succ]
      refine takeH 4 (some 122) (.bool true) rfl rfl (by kernel_rfl) (by kernel_rfl) (by kernel_rfl) (fun _ _ _ h => h) (by rfl) hS1 (fun w hSw => by go_split_ands; go_simp <;> first | rfl | omega | (intro h; exfalso; omega)) ?_
      simp only [Act.put, List.setIfInBounds_toArray, List.set_cons_zero, List.set_cons_succ]
      refine skipH 5 (some 123) rfl rfl (by kernel_rfl) (by kernel_rfl) (by kernel_rfl) (fun _ _ _ h => h) (by rfl) hS1 ?_
      simp only [Act.put, List.setIfInBounds_toArray, List.set_cons_zero, List.set_cons_succ]
      refine skipH 6 (some 124) rfl rfl (by kernel_rfl) (by kernel_rfl) (by kernel_rfl) (fun _ _ _ h => h) (by rfl) hS1 ?_
      simp only [Act.put, List.setIfInBounds_toArray, List.set_cons_zero, List.set_cons_succ]
      refine skipH 7 (some 125) rfl rfl (by kernel_rfl) (by kernel_rfl) (by kernel_rfl) (fun _ _ _ h => h) (by rfl) hS1 ?_
      simp only [Act.put, List.setIfInBounds_toArray, List.set_cons_zero, List.set_cons_succ]
      refine skipH 8 (some 126) rfl rfl (by kernel_rfl) (by kernel_rfl) (by kernel_rfl) (fun _ _ _ h => h) (by rfl) hS1 ?_
      simp only [Act.put, List.setIfInBounds_toArray, List.set_cons_zero, List.set_cons_succ]
      refine skipH 9 (some 127) rfl rfl (by kernel_rfl) (by kernel_rfl) (by kernel_rfl) (fun _ _ _ h => h) (by rfl) hS1 ?_
      simp only [Act.put, List.setIfInBounds_toArray, List.set_cons_zero, List.set_cons_succ]
      refine skipH 10 (some 128) rfl rfl (by kernel_rfl) (by kernel_rfl) (by kernel_rfl) (fun _ _ _ h => h) (by rfl) hS1 ?_
      simp only [Act.put, List.setIfInBounds_toArray, List.set_cons_zero, List.set_cons_succ]
      refine skipH 11 (some 129) rfl rfl (by kernel_rfl) (by kernel_rfl) (by kernel_rfl) (fun _ _ _ h => h) (by rfl) hS1 ?_
      simp only [Act.put, List.setIfInBounds_toArray, List.set_cons_zero, List.set_cons_succ]
      refine skipH 12 (some 130) rfl rfl (by kernel_rfl) (by kernel_rfl) (by kernel_rfl) (fun _ _ _ h => h) (by rfl) hS1 ?_
      simp only [Act.put, List.setIfInBounds_toArray, List.set_cons_zero, List.set_cons_succ]
      refine skipH 13 (some 131) rfl rfl (by kernel_rfl) (by kernel_rfl) (by kernel_rfl) (fun _ _ _ h => h) (by rfl) hS1 ?_
      simp only [Act.put, List.setIfInBounds_toArray, List.set_cons_zero, List.set_cons_succ]
      refine takeH 14 (some 132) (.bool true) rfl rfl (by kernel_rfl) (by kernel_rfl) (by kernel_rfl) (fun _ _ _ h => h) (by rfl) hS1 (fun w hSw => by go_split_ands; go_simp <;> first | rfl | omega | (intro h; exfalso; omega)) ?_
      simp only [Act.put, List.setIfInBounds_toArray, List.set_cons_zero, List.set_cons_succ]
      refine takeH 15 (some 2) (.bool true) rfl rfl (by kernel_rfl) (by kernel_rfl) (by kernel_rfl) (fun _ _ _ h => h) (by rfl) hS1 (fun w hSw => by go_split_ands; go_simp <;> first | rfl | omega | (intro h; exfalso; omega)) ?_
      simp only [Act.put, List.setIfInBounds_toArray, List.set_cons_zero, List.set_cons_succ]
      refine wpAnyH_done (by kernel_rfl) ?_ _
      go_wp2
      go_ret
      exact ⟨rfl, hB.trans (b11.mono hB.size)⟩
    · have hok := HBH.out.1 rfl
      have hMq : M = q := by rw [← HLM.out.1]; exact lenM_yes hok
      have hgr : graphB p k F T G = true := (ordB_parts hok.1).2.1
      have HMF : Hid (∀ W, Below W5.drew.heap.size W5.drew W → Calls Tryz.prog 16 #[.agg #[.slice po m pc, .slice eo q ec], .agg #[.slice uo M uc, .slice vo M vc]] W fun e w' => e = .returned (.bool true) ∧ Below W.heap.size W w') := fun W hA =>
        (implMetricOk_any po m pc P eo q ec (Lf (lstF p k F T P)) (Hf (lstF p k F T P)) uo M uc CU vo M vc CD (by omega) (by omega) hec (by omega) (by omega) W ((HR0.out.2.2.below hA (Nat.le_refl _)).congr (fun i hi => ((hok_len hok).2 i hi).1) (fun i hi => ((hok_len hok).2 i hi).2)) (HM0.out.1.below hA (Nat.le_refl _)) (HM0.out.2.below hA (Nat.le_refl _))).mono fun e w' h => ⟨h.1.is (iff_of_true rfl (by rw [hMq]; exact hok_mok hok HLM.out.2)), h.2⟩
      have HHN : Hid (∀ W ao3 ac3 eo3 ec3, Below W5.drew.heap.size W5.drew W → IRow W ao3 y1 Y1 → ERow W eo3 y2 YL YH → Calls Tryz.prog 10 #[.agg #[.int .i64 p, .slice go k gc], .agg #[.slice ao3 y1 ac3, .slice eo3 y2 ec3]] W fun e w' => e = .returned (.bool true) ∧ Below W.heap.size W w') := fun W ao3 ac3 eo3 ec3 hA h1 h2 =>
        (implHierOk_any p go k gc F T G ao3 y1 ac3 Y1 eo3 y2 ec3 YL YH (by omega) hy1k hy2k W (HR0.out.1.below hA (Nat.le_refl _)) h1 h2).mono fun e w' h => ⟨h.1.is (iff_of_true rfl (by
          obtain ⟨e1, e2, e3, e4, e5⟩ := HYY.out
          refine ⟨by rw [← e1, ← e2]; exact order_ok hgr, e3.symm, fun i hi => ?_⟩
          rw [← e4, ← e5]
          exact ⟨rfl, rfl⟩)), h.2⟩
      clear hok hMq hgr
      go_region_held3 (fun w' => w'.cell? ⟨gb, 0, none⟩ = some (.int .i64 p) ∧ w'.cell? ⟨gb, 1, none⟩ = some (.slice go k gc) ∧ w'.cell? ⟨hb, 0, none⟩ = some (.slice po m pc) ∧ w'.cell? ⟨hb, 1, none⟩ = some (.slice eo q ec) ∧ w'.cell? ⟨mb, 0, none⟩ = some (.slice uo M uc) ∧ w'.cell? ⟨mb, 1, none⟩ = some (.slice vo M vc))
        (first
          | (refine ⟨?_, ?_, ?_, ?_, ?_, ?_⟩; exact keep_cell hZ4 (Nat.le_refl _) g0; exact keep_cell hZ4 (Nat.le_refl _) g1; exact keep_cell hZ4 (Nat.le_refl _) h0; exact keep_cell hZ4 (Nat.le_refl _) h1; exact keep_cell hZ4 (Nat.le_refl _) m0; exact keep_cell hZ4 (Nat.le_refl _) m1)
          | (refine ⟨?_, ?_, ?_, ?_, ?_, ?_⟩; exact keep_cell hZ3 (Nat.le_refl _) g0; exact keep_cell hZ3 (Nat.le_refl _) g1; exact keep_cell hZ3 (Nat.le_refl _) h0; exact keep_cell hZ3 (Nat.le_refl _) h1; exact keep_cell hZ3 (Nat.le_refl _) m0; exact keep_cell hZ3 (Nat.le_refl _) m1)
          | (refine ⟨?_, ?_, ?_, ?_, ?_, ?_⟩; exact keep_cell hZ2 (Nat.le_refl _) g0; exact keep_cell hZ2 (Nat.le_refl _) g1; exact keep_cell hZ2 (Nat.le_refl _) h0; exact keep_cell hZ2 (Nat.le_refl _) h1; exact keep_cell hZ2 (Nat.le_refl _) m0; exact keep_cell hZ2 (Nat.le_refl _) m1)
          | (refine ⟨?_, ?_, ?_, ?_, ?_, ?_⟩; exact keep_cell hZ1 (Nat.le_refl _) g0; exact keep_cell hZ1 (Nat.le_refl _) g1; exact keep_cell hZ1 (Nat.le_refl _) h0; exact keep_cell hZ1 (Nat.le_refl _) h1; exact keep_cell hZ1 (Nat.le_refl _) m0; exact keep_cell hZ1 (Nat.le_refl _) m1)
          | go_keep)
        (first
          | (go_at_call 10; with_reducible refine (HHN.out _ ao3 ac3 eo3 ec3 hZ3 i7 i8).mono ?_; rintro e v14 ⟨rfl, b14⟩; have hZ4 := below_next hZ3 (Nat.le_refl _) b14)
          | (go_at_call 10; with_reducible refine (HIH.out _ hZ).mono ?_; rintro e v11 ⟨rfl, b11⟩; have hZ1 := below_next hZ (Nat.le_refl _) b11)
          | (go_at_call 16; with_reducible refine (HMF.out _ hZ1).mono ?_; rintro e v12 ⟨rfl, b12⟩; have hZ2 := below_next hZ1 (Nat.le_refl _) b12)
          | (go_at_call 13; with_reducible refine (HIN.out _ hZ2).mono ?_; rintro e v13 ⟨ao3, ac3, eo3, ec3, rfl, i7, i8, b13⟩; have hZ3 := below_next hZ2 (Nat.le_refl _) b13))
      go_wp2
      go_ret
      exact ⟨rfl, hB.trans ((below_next (below_next (below_next b11 (Nat.le_refl _) b12) (Nat.le_refl _) b13) (Nat.le_refl _) b14).mono hB.size)⟩

set_option maxRecDepth 100000 in
theorem lawFnCustomized_lifted (os : Os) (started : os.Started) (H : Type) (enc : TypeId × Value → H) :
    ReturnsInHanded {} Tryz.checked os 3 .any (Rows.fnCustomizedSpec.pre6 enc Tryz.prog Tryz.f3 Rows.fnCustomizedRow.domain false) (Rows.fnCustomizedSpec.post enc Tryz.prog Tryz.f3 false true false false) := by
  refine returnsInHanded_of_change (C := Tryz.checked) Tryz.own started (by kernel_rfl) Tryz.func3
    (ChangeSpec.witness6 (enc := enc) (C := Tryz.checked) false ⟨#[], #[.slice none 0 0], []⟩ 8 (by kernel_rfl) (by kernel_rfl) (by kernel_rfl) (by kernel_rfl)) ?_
  intro W base args ds gs before hval0 hW hcnd _
  have hval : ∀ (j : Nat) t v, Tryz.f3.params[j]? = some t → args[j]? = some v → Value.okWide Tryz.prog W .any base t v := hval0
  have hW' := hW
  obtain ⟨p, q, hA0, hV, rfl, hfz, hnd⟩ := hW
  have hA : DataW.TrodAll enc Tryz.prog W 0 (fun _ => true) true Tryz.f3.params.toList args.toList ds p := hA0
  rw [Tryz.params3] at hA hval
  obtain ⟨v1, vs1, d1, ds1, p1, q1, hargs, rfl, rfl, h1, r1⟩ := trodAll_cons hA
  obtain ⟨rfl, rfl, rfl⟩ := trodAll_nil r1
  obtain rfl : args = #[v1] := by cases args; simp_all
  obtain ⟨rfl, rfl⟩ := trodVars_none hV
  have k1 := h1
  have lt1 : ∀ x ∈ p1, x.block < W.heap.size := by obtain ⟨m, hm⟩ := k1; exact DataW.trod_lt m _ _ _ hm
  obtain ⟨b1, l1, c1', rfl⟩ := okWide_slice Tryz.underlying22 (hval 0 22 v1 rfl rfl)
  obtain ⟨f1, hf1⟩ := h1
  obtain ⟨ao2, m2, cap2, e2, hm2, hr2⟩ := open_bytes hf1
  simp [Value.cells] at e2
  obtain ⟨rfl, rfl, rfl⟩ := e2
  clear hA0 hval0
  refine (lawFnCustomized_walk b1 l1 c1' hm2 W hr2).mono fun e W' ⟨he, bel⟩ => ?_
  subst he
  exact ⟨_, rfl, _, _, _, [], _, [], hW', trodAll_mk1 (shut_bool Tryz.underlying4 _), (trodAll_cons_mk (Below.trod Tryz.laidOut (by kernel_rfl) (of_decide_eq_true (by kernel_rfl)) k1 bel lt1) trodAll_mk0), rfl, bel.frame _, fun h => by cases h⟩

theorem fnCustomized_holds : Rows.FnCustomizedSaid :=
  OpenClaim.holds_of_wide 3 Tryz.f3 rfl rfl rfl rfl rfl rfl rfl ⟨rfl, rfl, rfl, rfl, rfl⟩ rfl rfl rfl rfl rfl (by kernel_rfl) Tryz.func3 (by kernel_rfl)
    (of_decide_eq_true (by kernel_rfl)) (by unfold Func.isWrapper; first | (rw [if_pos (by decide +kernel)]; kernel_rfl) | (rw [if_neg (by decide +kernel)]; exact ⟨rfl, rfl⟩))
    (fun os started H enc _ => lawFnCustomized_lifted os started H enc)
#print axioms fnCustomized_holds

end Go.Proofs.YteibbknpcgcjjabGreat
