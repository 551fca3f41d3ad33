/-
  Proved: at every map and any two numbers the law FnExactWeightOf answers true, and its arguments read behind the call as they read before. No condition.
-/
import Derived.Test.YtapfheagchihhaeWeighImpl
set_option linter.unusedVariables false
set_option linter.unusedSimpArgs false
namespace Go.Proofs.Ytapfheagchihhae
open Go.ChangeShapes Go.WideShapes Go.ChangeAt Go.RowKit Go.Deep Go.Joins
attribute [local go_sem ↓] Go.wp_at_zero Go.wp_at_succ

set_option maxHeartbeats 1600000 in
theorem lawWeightOf_walk (p : Int) (ao : Option Addr) (n cap : Nat) (F T G : Nat → Int) (a c : Int) (ha : (Lit.int .i64 a).wf = true) (hc : (Lit.int .i64 c).wf = true) (hn : n ≤ maxLen) (w : World) (hr : Row w ao n F T G) :
    Calls Try.prog 4 #[.agg #[.int .i64 p, .slice ao n cap], .int .i64 a, .int .i64 c] w fun e w' => e = .returned (.bool true) ∧ Below w.heap.size w w' := by
  unfold maxLen at hn
  by_cases hbig : 1048576 < n
  · go_enter Try.func4, Try.ntmps4
    go_wp2_with (go_at_call 6; refine (szGraph_out p ao n cap 1048576 (by omega) (by omega) (by omega) (by omega) _).mono ?_; rintro e w1 ⟨rfl, hb1⟩)
    go_ret
    exact ⟨rfl, unbox hb1 (by simp)⟩
  have hn' : n ≤ 1048576 := by omega
  go_enter Try.func4, Try.ntmps4
  go_wp2_with (first | (go_at_call 6; refine (szGraph_in p ao n cap 1048576 (by omega) (by omega) _).mono ?_; rintro e w1 ⟨rfl, hb1⟩; have hA := below_next (Below.refl (w.heap.size + 1) _) (by simp) hb1; obtain ⟨x0, x1, xs⟩ := box2 hA) | (go_at_call 8; refine (toGraph_any p ao n cap F T G hn' _ ((hr.alloc _).below hA (by simp))).mono ?_; rintro e w2 ⟨bN, rfl, hbN, hown, hb2⟩; have hA := below_next hA (by simp) hb2; obtain ⟨x0, x1, xs⟩ := box2 hA) | (go_at_call 11; refine (specWeightOf_any p _ n n F T G a c hn' _ hown.row).mono ?_; rintro e w3 ⟨rfl, hb3⟩; have hA := below_next hA (by simp) hb3; obtain ⟨x0, x1, xs⟩ := box2 hA) | (go_at_call 12; refine (implWeightOf_any p _ n n F T G a c ha hc hn' _ (hown.row.alloc _)).mono ?_; rintro e w5 ⟨rfl, hb5⟩; have hA := below_next (hA.alloc xs _) (by simp) hb5))
  have hrow5 := ((hown.row.alloc _).below hb5 (Nat.le_refl _)).below (Below.refl _ w5).drew (Nat.le_refl _)
  have y0 := keep_cell hb5 (Nat.le_refl _) (b := w2.heap.size) (o := 0) (by simp [go_sem]; rfl)
  have y1 := keep_cell hb5 (Nat.le_refl _) (b := w2.heap.size) (o := 1) (by simp [go_sem]; rfl)
  obtain ⟨z0, z1, zs⟩ := box2 hA
  clear hb1 hb2 hb3 hb5 x0 x1
  go_region_held3 (fun w' => w'.cell? ⟨w2.heap.size, 0, none⟩ = some (.int .i64 p) ∧ w'.cell? ⟨w2.heap.size, 1, none⟩ = some (.slice (some ⟨bN, 0, none⟩) n n) ∧ w'.cell? ⟨w.heap.size, 0, none⟩ = some (.int .i64 p) ∧ w'.cell? ⟨w.heap.size, 1, none⟩ = some (.slice ao n cap))
    (first | (go_split_ands; refine ⟨?_, ?_, ?_, ?_⟩ <;> exact keep_cell ‹_› (Nat.le_refl _) (by assumption)) | go_keep)
    (first | (go_at_call 8; refine (toGraph_any p ao n cap F T G hn' _ ((hr.alloc _).below hA.drew (by simp))).mono ?_; rintro e w6 ⟨b6, rfl, hb6', hown6, hb6⟩) | (go_at_call 10; refine (eqGraph_same p _ _ n n n F T G hn' _ (hrow5.below hb6 (Nat.le_refl _)) hown6.row).mono ?_; rintro e w7 ⟨rfl, hb7⟩))
  go_wp2
  go_ret
  exact ⟨rfl, unbox (below_next (below_next hA.drew (by simp) hb6) (by simp) hb7) (by omega)⟩

set_option maxRecDepth 100000 in
theorem lawWeightOf_lifted (os : Os) (started : os.Started) (H : Type) (enc : TypeId × Value → H) :
    ReturnsInHanded {} Try.checked os 4 .any (Rows.fnExactWeightOfSpec.pre6 enc Try.prog Try.f4 Rows.fnExactWeightOfRow.domain false) (Rows.fnExactWeightOfSpec.post enc Try.prog Try.f4 false true false false) := by
  refine returnsInHanded_of_change (C := Try.checked) Try.own started (by kernel_rfl) Try.func4
    (ChangeSpec.witness6 (enc := enc) (C := Try.checked) false ⟨#[], #[.agg #[.int .i64 0, .slice none 0 0], .int .i64 0, .int .i64 0], []⟩ 8 (by kernel_rfl) (by kernel_rfl) (by kernel_rfl) (by kernel_rfl)) ?_
  intro W base args ds gs before hval0 hW hcnd _
  have hval : ∀ (j : Nat) t v, Try.f4.params[j]? = some t → args[j]? = some v → Value.okWide Try.prog W .any base t v := hval0
  have hW' := hW
  obtain ⟨p, q, hA0, hV, rfl, hfz, hnd⟩ := hW
  have hA : DataW.TrodAll enc Try.prog W 0 (fun _ => true) true Try.f4.params.toList args.toList ds p := hA0
  rw [Try.params4] at hA hval
  obtain ⟨v0, vs0, d0, ds0, p0, q0, hargs, rfl, rfl, h0, r0⟩ := trodAll_cons hA
  obtain ⟨v1, vs1, d1, ds1, p1, q1, rfl, rfl, rfl, h1, r1⟩ := trodAll_cons r0
  obtain ⟨v2, vs2, d2, ds2, p2, q2, rfl, rfl, rfl, h2, r2⟩ := trodAll_cons r1
  obtain ⟨rfl, rfl, rfl⟩ := trodAll_nil r2
  obtain rfl : args = #[v0, v1, v2] := by cases args; simp_all
  obtain ⟨rfl, rfl⟩ := trodVars_none hV
  have k0 := h0
  have lt0 : ∀ x ∈ p0, x.block < W.heap.size := by obtain ⟨m, hm⟩ := k0; exact DataW.trod_lt m _ _ _ hm
  obtain ⟨c0, c1, y0, y1, m, rfl, _, _, hy0, hy1⟩ := open_agg2 Try.underlying24 (by kernel_rfl) Try.cellsLGraph (hval 0 24 v0 rfl rfl) h0
  obtain ⟨pl, e0, _, _⟩ := DataW.trod_int Try.underlying2 hy0
  obtain ⟨ao, n, cap, F, T, G, e1, hn, hr⟩ := open_arcs hy1
  simp at e0 e1
  subst e0 e1
  obtain ⟨a, rfl, rfl, rfl, wa⟩ := open_int Try.underlying2 (hval 1 2 v1 rfl rfl) h1
  obtain ⟨c, rfl, rfl, rfl, wc⟩ := open_int Try.underlying2 (hval 2 2 v2 rfl rfl) h2
  clear hA0 hval0
  refine (lawWeightOf_walk pl ao n cap F T G a c wa wc hn W hr).mono fun e W' ⟨he, bel⟩ => ?_
  subst he
  exact ⟨_, rfl, _, _, _, [], _, [], hW', trodAll_mk1 (shut_bool Try.underlying4 _), (trodAll_cons_mk (Below.trod Try.laidOut (by kernel_rfl) (of_decide_eq_true (by kernel_rfl)) k0 bel lt0) (trodAll_cons_mk (shut_int Try.underlying2 wa) (trodAll_cons_mk (shut_int Try.underlying2 wc) trodAll_mk0))), rfl, bel.frame _, fun h => by cases h⟩

theorem fnExactWeightOf_holds : Rows.FnExactWeightOfSaid :=
  OpenClaim.holds_of_wide 4 Try.f4 rfl rfl rfl rfl rfl rfl rfl ⟨rfl, rfl, rfl, rfl, rfl⟩ rfl rfl rfl rfl rfl (by kernel_rfl) Try.func4 (by kernel_rfl)
    (of_decide_eq_true (by kernel_rfl)) (by unfold Func.isWrapper; first | (rw [if_pos (by decide +kernel)]; kernel_rfl) | (rw [if_neg (by decide +kernel)]; exact ⟨rfl, rfl⟩))
    (fun os started H enc _ => lawWeightOf_lifted os started H enc)
#print axioms fnExactWeightOf_holds

end Go.Proofs.Ytapfheagchihhae
