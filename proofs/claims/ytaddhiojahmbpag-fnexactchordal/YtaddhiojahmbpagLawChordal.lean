/-
  Proved: at every list of edges and every number the law FnExactChordal answers true, and its arguments read behind the call as they read before. No condition.
-/
import Derived.Test.YtaddhiojahmbpagChdImpl
import Derived.Test.YtaddhiojahmbpagEdgeLaw
set_option linter.unusedVariables false
set_option linter.unusedSimpArgs false
namespace Go.Proofs.Ytaddhiojahmbpag
open Go.ChangeShapes Go.WideShapes Go.ChangeAt Go.RowKit Go.Deep Go.Joins
attribute [local go_sem ↓] Go.wp_at_zero Go.wp_at_succ

set_option maxHeartbeats 4000000 in
theorem lawChordal_walk (ao : Option Addr) (n cap : Nat) (L H : Nat → Int) (p : Int) (hn : n ≤ maxLen) (w : World) (hr : ERow w ao n L H) :
    Calls Try.prog 4 #[.slice ao n cap, .int .i64 p] w fun e w' => e = .returned (.bool true) ∧ Below w.heap.size w w' := by
  unfold maxLen at hn
  by_cases hbig : 1048576 < n
  · go_enter Try.func4, Try.ntmps4
    go_wp2_with (go_at_call 7; refine (szEdgeS_out ao n cap 1048576 (by omega) (by omega) (by omega) (by omega) _).mono ?_; rintro e w1 ⟨rfl, hq⟩; have hq' := hq.symm; subst hq'; clear hq)
    go_ret
    exact ⟨rfl, Below.refl _ _⟩
  have hn' : n ≤ 1048576 := by omega
  have hn'' : (n : Int) ≤ 1048576 := by omega
  go_enter Try.func4, Try.ntmps4
  go_wp2_with fail
  refine (szEdgeS_in ao n cap 1048576 hn'' (by omega) _).mono ?_
  rintro e w0 ⟨rfl, hq⟩
  have hq' := hq.symm
  subst hq'
  clear hq
  go_wp2_with fail
  refine (toEdgeS_any ao n cap L H hn' _ hr).mono ?_
  rintro e w1 ⟨rfl, hown1, hb1⟩
  go_wp2_with fail
  refine (specChordal_any p _ n n L H hn' _ hown1.row).mono ?_
  rintro e w2 ⟨⟨v, rfl, hv⟩, hb2⟩
  have hA2 := below_next hb1 (Nat.le_refl _) hb2
  clear hown1 hb1 hb2
  go_wp2_with fail
  refine (toEdgeS_any ao n cap L H hn' _ (hr.below hA2 (Nat.le_refl _))).mono ?_
  rintro e w3 ⟨rfl, hX3, hb3⟩
  have hA3 := below_next hA2 (Nat.le_refl _) hb3
  clear hA2 hb3
  go_wp2_with fail
  refine (implChordal_any p _ n n L H hn' (Nat.le_refl _) _ hX3.row).mono ?_
  rintro e w4 ⟨⟨v', rfl, hv'⟩, hb4⟩
  have hA4 := below_next hA3 (Nat.le_refl _) hb4
  have hX4 := hX3.next hb4
  obtain rfl : v' = v := by
    cases v <;> cases v' <;> simp_all
  clear hA3 hb4 hX3 hv hv'
  cases v' <;>
  · go_wp2_with fail
    refine (toEdgeS_any ao n cap L H hn' _ (hr.below hA4 (Nat.le_refl _))).mono ?_
    rintro e w6 ⟨rfl, hY6, hb6⟩
    have hA6 := below_next hA4 (Nat.le_refl _) hb6
    have hX6 := hX4.next hb6
    clear hb6
    go_wp2_with fail
    refine (eqEdgeS_same _ _ n n n L H hn' _ hX6.row hY6.row).mono ?_
    rintro e w7 ⟨rfl, hb7⟩
    go_wp2
    go_ret
    exact ⟨rfl, below_next hA6 (Nat.le_refl _) hb7⟩

set_option maxRecDepth 100000 in
theorem lawChordal_lifted (os : Os) (started : os.Started) (H : Type) (enc : TypeId × Value → H) :
    ReturnsInHanded {} Try.checked os 4 .any (Rows.fnExactChordalSpec.pre6 enc Try.prog Try.f4 Rows.fnExactChordalRow.domain false) (Rows.fnExactChordalSpec.post enc Try.prog Try.f4 false true false false) := by
  refine returnsInHanded_of_change (C := Try.checked) Try.own started (by kernel_rfl) Try.func4
    (ChangeSpec.witness6 (enc := enc) (C := Try.checked) false ⟨#[], #[.slice none 0 0, .int .i64 0], []⟩ 8 (by kernel_rfl) (by kernel_rfl) (by kernel_rfl) (by kernel_rfl)) ?_
  intro W base args ds gs before hval0 hW hcnd _
  have hval : ∀ (j : Nat) t v, Try.f4.params[j]? = some t → args[j]? = some v → Value.okWide Try.prog W .any base t v := hval0
  have hW' := hW
  obtain ⟨p, q, hA0, hV, rfl, hfz, hnd⟩ := hW
  have hA : DataW.TrodAll enc Try.prog W 0 (fun _ => true) true Try.f4.params.toList args.toList ds p := hA0
  rw [Try.params4] at hA hval
  obtain ⟨v0, vs0, d0, ds0, p0, q0, hargs, rfl, rfl, h0, r0⟩ := trodAll_cons hA
  obtain ⟨v1, vs1, d1, ds1, p1, q1, rfl, rfl, rfl, h1, r1⟩ := trodAll_cons r0
  obtain ⟨rfl, rfl, rfl⟩ := trodAll_nil r1
  obtain rfl : args = #[v0, v1] := by cases args; simp_all
  obtain ⟨rfl, rfl⟩ := trodVars_none hV
  have k0 := h0
  have lt0 : ∀ x ∈ p0, x.block < W.heap.size := by obtain ⟨m, hm⟩ := k0; exact DataW.trod_lt m _ _ _ hm
  obtain ⟨b1, l1, c1', rfl⟩ := okWide_slice Try.underlying22 (hval 0 22 v0 rfl rfl)
  obtain ⟨f0, hf0⟩ := h0
  obtain ⟨ao2, m2, cap2, L, H2, e2, hm2, hr2, _, _⟩ := open_edges hf0
  simp [Value.cells] at e2
  obtain ⟨rfl, rfl, rfl⟩ := e2
  obtain ⟨a, rfl, rfl, rfl, wa⟩ := open_int Try.underlying2 (hval 1 2 v1 rfl rfl) h1
  clear hA0 hval0
  refine (lawChordal_walk b1 l1 c1' L H2 a hm2 W hr2).mono fun e W' ⟨he, bel⟩ => ?_
  subst he
  exact ⟨_, rfl, _, _, _, [], _, [], hW', trodAll_mk1 (shut_bool Try.underlying4 _), (trodAll_cons_mk (Below.trod Try.laidOut (by kernel_rfl) (of_decide_eq_true (by kernel_rfl)) k0 bel lt0) (trodAll_cons_mk (shut_int Try.underlying2 wa) trodAll_mk0)), rfl, bel.frame _, fun h => by cases h⟩

theorem fnExactChordal_holds : Rows.FnExactChordalSaid :=
  OpenClaim.holds_of_wide 4 Try.f4 rfl rfl rfl rfl rfl rfl rfl ⟨rfl, rfl, rfl, rfl, rfl⟩ rfl rfl rfl rfl rfl (by kernel_rfl) Try.func4 (by kernel_rfl)
    (of_decide_eq_true (by kernel_rfl)) (by unfold Func.isWrapper; first | (rw [if_pos (by decide +kernel)]; kernel_rfl) | (rw [if_neg (by decide +kernel)]; exact ⟨rfl, rfl⟩))
    (fun os started H enc _ => lawChordal_lifted os started H enc)
#print axioms fnExactChordal_holds

end Go.Proofs.Ytaddhiojahmbpag
