/-
  Proved: at every map, every hierarchy, every metric and every list of arcs the law FnExactRecustomize answers true, and its arguments read behind the call as they read before. No condition.
-/
import Derived.Test.YtmnohgcjdhokdahLawRecWP
import Derived.Test.YtmnohgcjdhokdahRecRP
import Derived.Test.YtmnohgcjdhokdahRecQP
import Derived.Test.YtmnohgcjdhokdahPack10
import Derived.Test.YtmnohgcjdhokdahLeafCP
import Derived.Test.YtmnohgcjdhokdahLeafBP
import Derived.Test.YtmnohgcjdhokdahOpenWfP
set_option linter.unusedVariables false
set_option linter.unusedSimpArgs false
namespace Go.Proofs.Ytmnohgcjdhokdah
open Go.ChangeShapes Go.WideShapes Go.ChangeAt Go.RowKit Go.Deep Go.Joins
attribute [local go_sem ↓] Go.wp_at_zero Go.wp_at_succ

set_option maxRecDepth 100000 in
theorem lawRecustomize_lifted (os : Os) (started : os.Started) (H : Type) (enc : TypeId × Value → H) :
    ReturnsInHanded {} Try.checked os 4 .any (Rows.fnExactRecustomizeSpec.pre6 enc Try.prog Try.f4 Rows.fnExactRecustomizeRow.domain false) (Rows.fnExactRecustomizeSpec.post enc Try.prog Try.f4 false true false false) := by
  refine returnsInHanded_of_change (C := Try.checked) Try.own started (by kernel_rfl) Try.func4
    (ChangeSpec.witness6 (enc := enc) (C := Try.checked) false ⟨#[], #[.agg #[.int .i64 0, .slice none 0 0], .agg #[.slice none 0 0, .slice none 0 0], .agg #[.slice none 0 0, .slice none 0 0], .slice none 0 0], []⟩ 8 (by kernel_rfl) (by kernel_rfl) (by kernel_rfl) (by kernel_rfl)) ?_
  intro W base args ds gs before hval0 hW hcnd _
  have hval : ∀ (j : Nat) t v, Try.f4.params[j]? = some t → args[j]? = some v → Value.okWide Try.prog W .any base t v := hval0
  have hW' := hW
  obtain ⟨p, q, hA0, hV, rfl, hfz, hnd⟩ := hW
  have hA : DataW.TrodAll enc Try.prog W 0 (fun _ => true) true Try.f4.params.toList args.toList ds p := hA0
  rw [Try.params4] at hA hval
  obtain ⟨v0, vs0, d0, ds0, p0, q0, hargs, rfl, rfl, h0, r0⟩ := trodAll_cons hA
  obtain ⟨v1, vs1, d1, ds1, p1, q1, rfl, rfl, rfl, h1, r1⟩ := trodAll_cons r0
  obtain ⟨v2, vs2, d2, ds2, p2, q2, rfl, rfl, rfl, h2, r2⟩ := trodAll_cons r1
  obtain ⟨v3, vs3, d3, ds3, p3, q3, rfl, rfl, rfl, h3, r3⟩ := trodAll_cons r2
  obtain ⟨rfl, rfl, rfl⟩ := trodAll_nil r3
  obtain rfl : args = #[v0, v1, v2, v3] := by cases args; simp_all
  obtain ⟨rfl, rfl⟩ := trodVars_none hV
  have k0 := h0
  have lt0 : ∀ x ∈ p0, x.block < W.heap.size := by obtain ⟨m, hm⟩ := k0; exact DataW.trod_lt m _ _ _ hm
  have k1 := h1
  have lt1 : ∀ x ∈ p1, x.block < W.heap.size := by obtain ⟨m, hm⟩ := k1; exact DataW.trod_lt m _ _ _ hm
  have k2 := h2
  have lt2 : ∀ x ∈ p2, x.block < W.heap.size := by obtain ⟨m, hm⟩ := k2; exact DataW.trod_lt m _ _ _ hm
  have k3 := h3
  have lt3 : ∀ x ∈ p3, x.block < W.heap.size := by obtain ⟨m, hm⟩ := k3; exact DataW.trod_lt m _ _ _ hm
  obtain ⟨c00, c01, y00, y01, f0, rfl, _, _, hy00, hy01⟩ := open_agg2 Try.underlying42 (by kernel_rfl) Try.cellsLGraph (hval 0 42 v0 rfl rfl) h0
  obtain ⟨pl0, e00, _, _⟩ := DataW.trod_int Try.underlying2 hy00
  obtain ⟨ao0, n0, cap0, F0, T0, G0, e01, hn0, hr0⟩ := open_arcs hy01
  simp at e00 e01
  subst e00 e01
  obtain ⟨c10, c11, y10, y11, f1, rfl, _, _, hy10, hy11⟩ := open_agg2 Try.underlying25 (by kernel_rfl) Try.cellsLHier (hval 1 25 v1 rfl rfl) h1
  obtain ⟨ao1, n1, cap1, P1, e10, hn1, hr1, wf1⟩ := open_nums hy10
  obtain ⟨eo1, m1, ecap1, L1, H1, e11, hm1, he1, wl1, wh1⟩ := open_edges hy11
  simp at e10 e11
  subst e10 e11
  obtain ⟨c20, c21, y20, y21, f2, rfl, _, _, hy20, hy21⟩ := open_agg2 Try.underlying27 (by kernel_rfl) Try.cellsLMetric (hval 2 27 v2 rfl rfl) h2
  obtain ⟨ao2, n2, cap2, P2, e20, hn2, hr2, wf2⟩ := open_nums hy20
  obtain ⟨eo2, m2, ecap2, L2, e21, hm2, he2, wl2⟩ := open_nums hy21
  simp at e20 e21
  subst e20 e21
  obtain ⟨b3, l3, c3, rfl⟩ := okWide_slice Try.underlying40 (hval 3 40 v3 rfl rfl)
  obtain ⟨f3, hf3⟩ := h3
  obtain ⟨ao3, n3, cap3, F3, T3, G3, e3, hn3, hr3, wf3⟩ := open_arcs_wf hf3
  simp [Value.cells] at e3
  obtain ⟨rfl, rfl, rfl⟩ := e3
  clear hA0 hval0
  refine (lawRecustomize_walk pl0 ao0 n0 cap0 F0 T0 G0 ao1 n1 cap1 P1 eo1 m1 ecap1 L1 H1 ao2 n2 cap2 P2 eo2 m2 ecap2 L2 b3 l3 c3 F3 T3 G3 hn0 hn1 hm1 hn2 hm2 hn3 wf3 W hr0 hr1 he1 hr2 he2 hr3 ).mono fun e W' ⟨he, bel⟩ => ?_
  subst he
  exact ⟨_, rfl, _, _, _, [], _, [], hW', trodAll_mk1 (shut_bool Try.underlying4 _), (trodAll_cons_mk (Below.trod Try.laidOut (by kernel_rfl) (of_decide_eq_true (by kernel_rfl)) k0 bel lt0) (trodAll_cons_mk (Below.trod Try.laidOut (by kernel_rfl) (of_decide_eq_true (by kernel_rfl)) k1 bel lt1) (trodAll_cons_mk (Below.trod Try.laidOut (by kernel_rfl) (of_decide_eq_true (by kernel_rfl)) k2 bel lt2) (trodAll_cons_mk (Below.trod Try.laidOut (by kernel_rfl) (of_decide_eq_true (by kernel_rfl)) k3 bel lt3) trodAll_mk0)))), rfl, bel.frame _, fun h => by cases h⟩

theorem fnExactRecustomize_holds : Rows.FnExactRecustomizeSaid :=
  OpenClaim.holds_of_wide 4 Try.f4 rfl rfl rfl rfl rfl rfl rfl ⟨rfl, rfl, rfl, rfl, rfl⟩ rfl rfl rfl rfl rfl (by kernel_rfl) Try.func4 (by kernel_rfl)
    (of_decide_eq_true (by kernel_rfl)) (by unfold Func.isWrapper; first | (rw [if_pos (by decide +kernel)]; kernel_rfl) | (rw [if_neg (by decide +kernel)]; exact ⟨rfl, rfl⟩))
    (fun os started H enc _ => lawRecustomize_lifted os started H enc)
#print axioms fnExactRecustomize_holds

end Go.Proofs.Ytmnohgcjdhokdah
