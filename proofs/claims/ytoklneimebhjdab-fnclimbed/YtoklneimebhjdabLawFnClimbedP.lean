/-
  Proved: at every code the law FnClimbed answers true, and its argument reads behind the call as it read before. No condition.
-/
import Derived.Test.YtoklneimebhjdabDrawM7P
import Derived.Test.YtoklneimebhjdabPack9
import Derived.Test.YtoklneimebhjdabClmSP
import Derived.Test.YtoklneimebhjdabClmIP
set_option linter.unusedVariables false
set_option linter.unusedSimpArgs false
namespace Go.Proofs.Ytoklneimebhjdab
open Go.ChangeShapes Go.WideShapes Go.ChangeAt Go.RowKit Go.Deep Go.Joins
attribute [local go_sem ↓] Go.wp_at_zero Go.wp_at_succ

set_option maxRecDepth 100000 in
set_option maxHeartbeats 4000000 in
theorem lawFnClimbed_walk (ao : Option Addr) (n cap : Nat) (hn : n ≤ maxLen) (w : World) (hr : ByRow w w.heap.size ao n) :
    Calls Try.prog 5 #[.slice ao n cap] w fun e w' => e = .returned (.bool true) ∧ Below w.heap.size w w' := by
  unfold maxLen at hn
  by_cases hbig : 4096 < n
  · have hd : decide (4096 < n) = true := by simp [hbig]
    go_enter Try.func5, Try.ntmps5
    go_wp2_with fail
    refine (big_any ao n cap (by omega) _).mono ?_
    rw [hd]
    rintro e w1 ⟨rfl, hq⟩
    have hq' := hq.symm
    subst hq'
    go_wp2
    go_ret
    exact ⟨rfl, Below.refl _ _⟩
  have hd : decide (4096 < n) = false := by simp; omega
  go_enter Try.func5, Try.ntmps5
  go_wp2_with fail
  refine (big_any ao n cap (by omega) _).mono ?_
  rw [hd]
  rintro e w1 ⟨rfl, hq⟩
  have hq' := hq.symm
  subst hq'
  clear hq
  go_wp2_with fail
  refine (drawClimb_any ao n cap (by omega) _ hr).mono ?_
  rintro e w2 ⟨po, k, pc, P, eo, m, ec, L, H, uo, u, uc, U, vo, v, vc, V, r, bk, rfl, ⟨hk, hm, hu, hv⟩, hP, hE, hU, hV, hB⟩
  obtain ⟨N, hN⟩ : ∃ N, lenC k m L H u U v V r = N := ⟨_, rfl⟩
  obtain ⟨D, hD⟩ : ∃ D, cl L H (wts U V bk) r.toNat m = D := ⟨_, rfl⟩
  have hN24 : N ≤ 24 := by rw [← hN]; exact lenC_le ..
  have HSP : Hid (∀ W, ERow W eo m L H → IRow W uo u U → IRow W vo v V → Calls Try.prog 25 #[.agg #[.slice po k pc, .slice eo m ec], .agg #[.slice uo u uc, .slice vo v vc], .int .i64 r, .bool bk] W fun e w' => Ans W w' e N D) := fun W h1 h2 h3 => by rw [← hN, ← hD]; exact specClimb_any po k pc eo m ec L H uo u uc U vo v vc V r bk (by omega) (by omega) (by omega) (by omega) W h1 h2 h3
  have HIM : Hid (∀ W, ERow W eo m L H → IRow W uo u U → IRow W vo v V → Calls Try.prog 24 #[.agg #[.slice po k pc, .slice eo m ec], .agg #[.slice uo u uc, .slice vo v vc], .int .i64 r, .bool bk] W fun e w' => Ans W w' e N D) := fun W h1 h2 h3 => by rw [← hN, ← hD]; exact implClimb_any po k pc eo m ec L H uo u uc U vo v vc V r bk (by omega) (by omega) (by omega) (by omega) W h1 h2 h3
  have HSAY : Hid (∀ i, i < N → ((i : Int) < r → D i = 1000000000000) ∧ ((i : Int) = r → D i = 0) ∧ 0 ≤ D i ∧ D i ≤ 1000000000000) := fun i hi => by rw [← hD]; exact climb_says (by rw [hN]; exact hi)
  clear hN hD
  go_wp2_with fail
  have ha1 := (Below.refl w2.heap.size w2).alloc (Nat.le_refl _) (.cells #[.slice po k pc, .slice eo m ec] 40)
  have ha2 := (Below.refl _ (w2.alloc (.cells #[.slice po k pc, .slice eo m ec] 40))).alloc (Nat.le_refl _) (.cells #[.slice uo u uc, .slice vo v vc] 42)
  have haa := below_next ha1 (Nat.le_refl _) ha2
  have c0 : ((w2.alloc (.cells #[.slice po k pc, .slice eo m ec] 40)).alloc (.cells #[.slice uo u uc, .slice vo v vc] 42)).cell? ⟨w2.heap.size, 0, none⟩ = some (.slice po k pc) := keep_cell ha2 (Nat.le_refl _) (by simp [go_sem])
  have c1 : ((w2.alloc (.cells #[.slice po k pc, .slice eo m ec] 40)).alloc (.cells #[.slice uo u uc, .slice vo v vc] 42)).cell? ⟨w2.heap.size, 1, none⟩ = some (.slice eo m ec) := keep_cell ha2 (Nat.le_refl _) (by simp [go_sem])
  have Ma := me2_new (w2.alloc (.cells #[.slice po k pc, .slice eo m ec] 40)) (.slice uo u uc) (.slice vo v vc)
  simp only [World.size_alloc] at Ma
  have c2 : ((w2.alloc (.cells #[.slice po k pc, .slice eo m ec] 40)).alloc (.cells #[.slice uo u uc, .slice vo v vc] 42)).cell? ⟨w2.heap.size + 1, 0, none⟩ = some (.slice uo u uc) := Ma.cell (j := 0) (by omega)
  have c3 : ((w2.alloc (.cells #[.slice po k pc, .slice eo m ec] 40)).alloc (.cells #[.slice uo u uc, .slice vo v vc] 42)).cell? ⟨w2.heap.size + 1, 1, none⟩ = some (.slice vo v vc) := Ma.cell (j := 1) (by omega)
  clear Ma
  have hszB := hB.size
  replace hE := hE.below haa (Nat.le_refl _)
  replace hU := hU.below haa (Nat.le_refl _)
  replace hV := hV.below haa (Nat.le_refl _)
  replace hB := hB.trans (haa.mono hszB)
  clear ha1 ha2 haa hP
  generalize ((w2.alloc (.cells #[.slice po k pc, .slice eo m ec] 40)).alloc (.cells #[.slice uo u uc, .slice vo v vc] 42)) = W3 at hE hU hV hB c0 c1 c2 c3 ⊢
  generalize w2.heap.size = hb at c0 c1 c2 c3 hszB ⊢
  refine (HIM.out _ hE hU hV).mono ?_
  rintro e w4 ⟨aoX, capX, rfl, hX, hb4⟩
  have hrX := ans_row hX
  clear hX
  have hs3 := hB.size
  replace c0 := keep_cell hb4 (Nat.le_refl _) c0
  replace c1 := keep_cell hb4 (Nat.le_refl _) c1
  replace c2 := keep_cell hb4 (Nat.le_refl _) c2
  replace c3 := keep_cell hb4 (Nat.le_refl _) c3
  replace hE := hE.below hb4 (Nat.le_refl _)
  replace hU := hU.below hb4 (Nat.le_refl _)
  replace hV := hV.below hb4 (Nat.le_refl _)
  replace hB := hB.trans (hb4.mono hs3)
  clear hb4
  go_wp2_with fail
  refine (HSP.out _ hE hU hV).mono ?_
  rintro e w5 ⟨aoW, capW, rfl, hX, hb5⟩
  have hrW := ans_row hX
  replace hrX := hrX.below hb5 (Nat.le_refl _)
  have hs4 := hB.size
  replace hB := hB.trans (hb5.mono hs4)
  clear hX hb5 hE hU hV c0 c1 c2 c3 HSP HIM
  go_wp2_with fail
  refine (likeInts_same _ _ N _ _ D (by omega) _ hrX hrW).mono ?_
  rintro e w6 ⟨rfl, hb6⟩
  have hs5 := hB.size
  replace hrX := hrX.below hb6 (Nat.le_refl _)
  replace hB := hB.trans (hb6.mono hs5)
  clear hb6 hrW
  have hs6 := hB.size
  go_wp2_with fail
  go_loopw [8] (fun x wr => ∃ i : Nat, i ≤ N ∧ x = .int .i64 i ∧ Below w6.heap.size w6 wr) (fun x _ => N - (intOf x).toNat)
  case atStart => exact ⟨0, Nat.zero_le _, rfl, Below.refl _ _⟩
  case round =>
    obtain ⟨i, hi, rfl, hbel⟩ := hrel
    by_cases hlt : i < N
    rotate_left
    · have him : ¬ (i : Int) < (N : Int) := by omega
      go_wp2
      go_ret
      exact ⟨rfl, hB.trans (hbel.mono hs6)⟩
    have hlt' : (i : Int) < (N : Int) := by omega
    obtain ⟨bb, o, hao, cc⟩ := (hrX.below hbel (Nat.le_refl _)) i hlt
    subst hao
    obtain ⟨s1, s2, s3, s4⟩ := HSAY.out i hlt
    have n3 : ¬ D i < 0 := by omega
    have n4 : ¬ 1000000000000 < D i := by omega
    by_cases h1 : (i : Int) < r
    · have e1 := s1 h1
      have h2 : ¬ (i : Int) = r := by omega
      rw [e1] at cc
      clear n3 n4 s1 s2 s3 s4
      go_wp2
      go_roundw
      case rel => exact ⟨i + 1, by omega, by go_num, hbel⟩
      case measure => simp [intOf]; omega
    by_cases h2 : (i : Int) = r
    · have e1 := s2 h2
      rw [e1] at cc
      clear n3 n4 s1 s2 s3 s4
      subst h2
      go_wp2
      go_roundw
      case rel => exact ⟨i + 1, by omega, by go_num, hbel⟩
      case measure => simp [intOf]; omega
    clear s1 s2 s3 s4
    go_wp2
    go_roundw
    case rel => exact ⟨i + 1, by omega, by go_num, hbel⟩
    case measure => simp [intOf]; omega

set_option maxRecDepth 100000 in
theorem lawFnClimbed_lifted (os : Os) (started : os.Started) (H : Type) (enc : TypeId × Value → H) :
    ReturnsInHanded {} Try.checked os 5 .any (Rows.fnClimbedSpec.pre6 enc Try.prog Try.f5 Rows.fnClimbedRow.domain false) (Rows.fnClimbedSpec.post enc Try.prog Try.f5 false true false false) := by
  refine returnsInHanded_of_change (C := Try.checked) Try.own started (by kernel_rfl) Try.func5
    (ChangeSpec.witness6 (enc := enc) (C := Try.checked) false ⟨#[], #[.slice none 0 0], []⟩ 8 (by kernel_rfl) (by kernel_rfl) (by kernel_rfl) (by kernel_rfl)) ?_
  intro W base args ds gs before hval0 hW hcnd _
  have hval : ∀ (j : Nat) t v, Try.f5.params[j]? = some t → args[j]? = some v → Value.okWide Try.prog W .any base t v := hval0
  have hW' := hW
  obtain ⟨p, q, hA0, hV, rfl, hfz, hnd⟩ := hW
  have hA : DataW.TrodAll enc Try.prog W 0 (fun _ => true) true Try.f5.params.toList args.toList ds p := hA0
  rw [Try.params5] at hA hval
  obtain ⟨v1, vs1, d1, ds1, p1, q1, hargs, rfl, rfl, h1, r1⟩ := trodAll_cons hA
  obtain ⟨rfl, rfl, rfl⟩ := trodAll_nil r1
  obtain rfl : args = #[v1] := by cases args; simp_all
  obtain ⟨rfl, rfl⟩ := trodVars_none hV
  have k1 := h1
  have lt1 : ∀ x ∈ p1, x.block < W.heap.size := by obtain ⟨m, hm⟩ := k1; exact DataW.trod_lt m _ _ _ hm
  obtain ⟨b1, l1, c1', rfl⟩ := okWide_slice Try.underlying22 (hval 0 22 v1 rfl rfl)
  obtain ⟨f1, hf1⟩ := h1
  obtain ⟨ao2, m2, cap2, e2, hm2, hr2⟩ := open_bytes hf1
  simp [Value.cells] at e2
  obtain ⟨rfl, rfl, rfl⟩ := e2
  clear hA0 hval0
  refine (lawFnClimbed_walk b1 l1 c1' hm2 W hr2).mono fun e W' ⟨he, bel⟩ => ?_
  subst he
  exact ⟨_, rfl, _, _, _, [], _, [], hW', trodAll_mk1 (shut_bool Try.underlying4 _), (trodAll_cons_mk (Below.trod Try.laidOut (by kernel_rfl) (of_decide_eq_true (by kernel_rfl)) k1 bel lt1) trodAll_mk0), rfl, bel.frame _, fun h => by cases h⟩

theorem fnClimbed_holds : Rows.FnClimbedSaid :=
  OpenClaim.holds_of_wide 5 Try.f5 rfl rfl rfl rfl rfl rfl rfl ⟨rfl, rfl, rfl, rfl, rfl⟩ rfl rfl rfl rfl rfl (by kernel_rfl) Try.func5 (by kernel_rfl)
    (of_decide_eq_true (by kernel_rfl)) (by unfold Func.isWrapper; first | (rw [if_pos (by decide +kernel)]; kernel_rfl) | (rw [if_neg (by decide +kernel)]; exact ⟨rfl, rfl⟩))
    (fun os started H enc _ => lawFnClimbed_lifted os started H enc)
#print axioms fnClimbed_holds

end Go.Proofs.Ytoklneimebhjdab
