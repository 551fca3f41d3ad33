/-
  Proved: at every list of edges and every number the law FnExactParents answers true, and its arguments read behind the call as they read before. No condition.
-/
import Derived.Test.YtaddhiojahmbpagAnsLaw
import Derived.Test.YtaddhiojahmbpagParImpl
import Derived.Test.YtaddhiojahmbpagEdgeLaw
import Derived.Test.YtaddhiojahmbpagEdgeMark
set_option linter.unusedVariables false
set_option linter.unusedSimpArgs false
namespace Go.Proofs.Ytaddhiojahmbpag
open Go.ChangeShapes Go.WideShapes Go.ChangeAt Go.RowKit Go.Deep Go.Joins
attribute [local go_sem ↓] Go.wp_at_zero Go.wp_at_succ

set_option maxHeartbeats 4000000 in
theorem lawParents_walk (ao : Option Addr) (n cap : Nat) (L H : Nat → Int) (p : Int) (hn : n ≤ maxLen) (w : World) (hr : ERow w ao n L H) :
    Calls Try.prog 3 #[.slice ao n cap, .int .i64 p] w fun e w' => e = .returned (.bool true) ∧ Below w.heap.size w w' := by
  unfold maxLen at hn
  by_cases hbig : 1048576 < n
  · go_enter Try.func3, Try.ntmps3
    go_wp2_with (go_at_call 7; refine (szEdgeS_out ao n cap 1048576 (by omega) (by omega) (by omega) (by omega) _).mono ?_; rintro e w1 ⟨rfl, hq⟩; have hq' := hq.symm; subst hq'; clear hq)
    go_ret
    exact ⟨rfl, Below.refl _ _⟩
  have hn' : n ≤ 1048576 := by omega
  have hn'' : (n : Int) ≤ 1048576 := by omega
  obtain ⟨m, hm⟩ : ∃ m, lenP p n L H = m := ⟨_, rfl⟩
  obtain ⟨D, hD⟩ : ∃ D, sp L H n n = D := ⟨_, rfl⟩
  have hm24 : m ≤ 24 := by rw [← hm]; exact lenP_le _ _ _ _
  have hspec := fun ao' cap' W hr' => specParents_any p ao' n cap' L H hn' W hr'
  have himpl := fun ao' cap' W hr' => implParents_any p ao' n cap' L H hn' W hr'
  rw [hm, hD] at hspec himpl
  have HSP : Hid (∀ ao' cap' W, ERow W ao' n L H → Calls Try.prog 8 #[.slice ao' n cap', .int .i64 p] W fun e w' => Ans W w' e m D) := hspec
  have HIM : Hid (∀ ao' cap' W, ERow W ao' n L H → Calls Try.prog 10 #[.slice ao' n cap', .int .i64 p] W fun e w' => Ans W w' e m D) := himpl
  clear hspec himpl hm hD
  have hm' : m ≤ 1048576 := by omega
  go_enter Try.func3, Try.ntmps3
  go_wp2_with fail
  refine (szEdgeS_in ao n cap 1048576 hn'' (by omega) _).mono ?_
  rintro e w0 ⟨rfl, hq⟩
  have hq' := hq.symm
  subst hq'
  clear hq
  go_wp2_with fail
  refine (toEdgeS_any ao n cap L H hn' _ hr).mono ?_
  rintro e w1 ⟨rfl, hown1, hb1⟩
  go_wp2_with fail
  refine (HSP.out _ _ _ hown1.row).mono ?_
  rintro e w2 ⟨aoW, capW, rfl, hW, hb2⟩
  have hA2 := below_next hb1 (Nat.le_refl _) hb2
  have ho1 := hown1.lt
  have hwx := hA2.size
  clear hown1
  obtain ⟨gw, hgw1, hgw2, hgw3⟩ : ∃ gw, (0 < m → aoW = some ⟨gw, 0, none⟩) ∧ gw < w2.heap.size ∧ (0 < m → IHas w2 gw m D) := by
    by_cases h0 : 0 < m
    · obtain ⟨g, e, _, hI⟩ := hW h0
      exact ⟨g, fun _ => e, hI.lt, fun _ => hI⟩
    · exact ⟨0, fun h => absurd h h0, by have := hb2.size; omega, fun h => absurd h h0⟩
  clear hW hb1 hb2
  go_wp2_with fail
  refine (toEdgeS_any ao n cap L H hn' _ (hr.below hA2 (Nat.le_refl _))).mono ?_
  rintro e w3 ⟨rfl, hX3, hb3⟩
  have hA3 := below_next hA2 (Nat.le_refl _) hb3
  have hgw4 : 0 < m → IHas w3 gw m D := fun h => (hgw3 h).below hb3 (hgw3 h).lt
  have hxl := hX3.lt
  clear hgw3 hb3 hA2
  go_wp2_with fail
  refine (HIM.out _ _ _ hX3.row).mono ?_
  rintro e w4 ⟨aoG, capG, rfl, hG, hb4⟩
  have hA4 := below_next hA3 (Nat.le_refl _) hb4
  have hX4 := hX3.below hb4 hX3.lt
  have hs4 := hb4.size
  obtain ⟨bg, hbg1, hbg2, hbg3⟩ : ∃ bg, (0 < m → aoG = some ⟨bg, 0, none⟩) ∧ w3.heap.size ≤ bg ∧ (0 < m → IHas w4 bg m D) := by
    by_cases h0 : 0 < m
    · obtain ⟨g, e, hge, hI⟩ := hG h0
      exact ⟨g, fun _ => e, hge, fun _ => hI⟩
    · exact ⟨w3.heap.size, fun h => absurd h h0, Nat.le_refl _, fun h => absurd h h0⟩
  have hS : SD w.heap.size w w4 m D D gw bg := ⟨hA4, fun h => (hgw4 h).below hb4 (hgw4 h).lt, hbg3⟩
  clear hG hb4 hA3 hA4 hX3 hgw4 hbg3
  go_wp2_with fail
  refine (eqInt64S_same aoG aoW m capG capW D hm' _ (irow_of hbg1 hS.own) (irow_of hgw1 hS.doc)).mono ?_
  rintro e w5 ⟨rfl, hb5⟩
  replace hS := hS.next (Nat.le_refl _) hb5
  have hX5 := hX4.below hb5 hX4.lt
  clear hX4 hb5
  go_wp2_with fail
  refine (toEdgeS_any ao n cap L H hn' _ (hr.below hS.hA (Nat.le_refl _))).mono ?_
  rintro e w6 ⟨rfl, hY6, hb6⟩
  replace hS := hS.next (Nat.le_refl _) hb6
  have hX6 := hX5.below hb6 hX5.lt
  clear hX5 hb6
  go_wp2_with fail
  refine (eqEdgeS_same _ _ n n n L H hn' _ hX6.row hY6.row).mono ?_
  rintro e w7 ⟨rfl, hb7⟩
  replace hS := hS.next (Nat.le_refl _) hb7
  have hX7 := hX6.below hb7 hX6.lt
  clear hX6 hb7 hY6
  go_wp2_with fail
  refine (markEdgeS_any w2.heap.size n n (er L H) 1 (by omega) (by omega) hn' _ (fun _ => hX7) _ (fun _ => rfl)).mono ?_
  rintro e w8 ⟨rfl, _, hg8⟩
  replace hS := hS.aside (Nat.le_refl _) hg8 hwx (by omega) (by omega)
  clear hX7 hg8
  go_wp2_with fail
  refine (eqInt64S_same aoG aoW m capG capW D hm' _ (irow_of hbg1 hS.own) (irow_of hgw1 hS.doc)).mono ?_
  rintro e w9 ⟨rfl, hb9⟩
  replace hS := hS.next (Nat.le_refl _) hb9
  clear hb9
  go_wp2_with fail
  refine (markInt64S_any bg m capG D 1 (by omega) (by omega) hm' _ hS.own aoG hbg1).mono ?_
  rintro e w10 ⟨rfl, hm10, hg10⟩
  replace hS := hS.marked (Nat.le_refl _) hg10 hm10 (by omega) (by omega)
  clear hm10 hg10
  go_wp2_with fail
  refine (heldInt64S_any bg m capG 1 (by omega) (by omega) hm' _ hS.own aoG hbg1).mono ?_
  rintro e w11 ⟨rfl, hq⟩
  have hq' := hq.symm
  subst hq'
  clear hq
  go_wp2_with fail
  refine (toEdgeS_any ao n cap L H hn' _ (hr.below hS.hA (Nat.le_refl _))).mono ?_
  rintro e w12 ⟨rfl, hY12, hb12⟩
  replace hS := hS.next (Nat.le_refl _) hb12
  clear hb12
  go_wp2_with fail
  refine (HIM.out _ _ _ hY12.row).mono ?_
  rintro e w13 ⟨aoH, capH, rfl, hH, hb13⟩
  replace hS := hS.next (Nat.le_refl _) hb13
  have hrowH : IRow w13 aoH m D := fun k hk => by
    obtain ⟨g, e, _, hI⟩ := hH (by omega)
    subst e
    exact hI.row k hk
  clear hH hb13 hY12
  go_wp2_with fail
  refine (eqInt64S_same aoH aoW m capH capW D hm' _ hrowH (irow_of hgw1 hS.doc)).mono ?_
  rintro e w14 ⟨rfl, hb14⟩
  replace hS := hS.next (Nat.le_refl _) hb14
  clear hb14 hrowH
  go_wp2_with fail
  refine (heldInt64S_any bg m capG 1 (by omega) (by omega) hm' _ hS.own aoG hbg1).mono ?_
  rintro e w15 ⟨rfl, hq⟩
  have hq' := hq.symm
  subst hq'
  clear hq
  go_wp2
  go_ret
  exact ⟨rfl, hS.hA⟩

set_option maxRecDepth 100000 in
theorem lawParents_lifted (os : Os) (started : os.Started) (H : Type) (enc : TypeId × Value → H) :
    ReturnsInHanded {} Try.checked os 3 .any (Rows.fnExactParentsSpec.pre6 enc Try.prog Try.f3 Rows.fnExactParentsRow.domain false) (Rows.fnExactParentsSpec.post enc Try.prog Try.f3 false true false false) := by
  refine returnsInHanded_of_change (C := Try.checked) Try.own started (by kernel_rfl) Try.func3
    (ChangeSpec.witness6 (enc := enc) (C := Try.checked) false ⟨#[], #[.slice none 0 0, .int .i64 0], []⟩ 8 (by kernel_rfl) (by kernel_rfl) (by kernel_rfl) (by kernel_rfl)) ?_
  intro W base args ds gs before hval0 hW hcnd _
  have hval : ∀ (j : Nat) t v, Try.f3.params[j]? = some t → args[j]? = some v → Value.okWide Try.prog W .any base t v := hval0
  have hW' := hW
  obtain ⟨p, q, hA0, hV, rfl, hfz, hnd⟩ := hW
  have hA : DataW.TrodAll enc Try.prog W 0 (fun _ => true) true Try.f3.params.toList args.toList ds p := hA0
  rw [Try.params3] at hA hval
  obtain ⟨v0, vs0, d0, ds0, p0, q0, hargs, rfl, rfl, h0, r0⟩ := trodAll_cons hA
  obtain ⟨v1, vs1, d1, ds1, p1, q1, rfl, rfl, rfl, h1, r1⟩ := trodAll_cons r0
  obtain ⟨rfl, rfl, rfl⟩ := trodAll_nil r1
  obtain rfl : args = #[v0, v1] := by cases args; simp_all
  obtain ⟨rfl, rfl⟩ := trodVars_none hV
  have k0 := h0
  have lt0 : ∀ x ∈ p0, x.block < W.heap.size := by obtain ⟨m, hm⟩ := k0; exact DataW.trod_lt m _ _ _ hm
  obtain ⟨b1, l1, c1', rfl⟩ := okWide_slice Try.underlying22 (hval 0 22 v0 rfl rfl)
  obtain ⟨f0, hf0⟩ := h0
  obtain ⟨ao2, m2, cap2, L, H2, e2, hm2, hr2, _, _⟩ := open_edges hf0
  simp [Value.cells] at e2
  obtain ⟨rfl, rfl, rfl⟩ := e2
  obtain ⟨a, rfl, rfl, rfl, wa⟩ := open_int Try.underlying2 (hval 1 2 v1 rfl rfl) h1
  clear hA0 hval0
  refine (lawParents_walk b1 l1 c1' L H2 a hm2 W hr2).mono fun e W' ⟨he, bel⟩ => ?_
  subst he
  exact ⟨_, rfl, _, _, _, [], _, [], hW', trodAll_mk1 (shut_bool Try.underlying4 _), (trodAll_cons_mk (Below.trod Try.laidOut (by kernel_rfl) (of_decide_eq_true (by kernel_rfl)) k0 bel lt0) (trodAll_cons_mk (shut_int Try.underlying2 wa) trodAll_mk0)), rfl, bel.frame _, fun h => by cases h⟩

theorem fnExactParents_holds : Rows.FnExactParentsSaid :=
  OpenClaim.holds_of_wide 3 Try.f3 rfl rfl rfl rfl rfl rfl rfl ⟨rfl, rfl, rfl, rfl, rfl⟩ rfl rfl rfl rfl rfl (by kernel_rfl) Try.func3 (by kernel_rfl)
    (of_decide_eq_true (by kernel_rfl)) (by unfold Func.isWrapper; first | (rw [if_pos (by decide +kernel)]; kernel_rfl) | (rw [if_neg (by decide +kernel)]; exact ⟨rfl, rfl⟩))
    (fun os started H enc _ => lawParents_lifted os started H enc)
#print axioms fnExactParents_holds

end Go.Proofs.Ytaddhiojahmbpag
