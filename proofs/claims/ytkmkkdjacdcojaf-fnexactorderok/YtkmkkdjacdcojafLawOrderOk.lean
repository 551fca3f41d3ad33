/-
  Proved: at every map and every list of numbers the law FnExactOrderOk answers true, and its arguments read behind the call as they read before. No condition.
-/
import Derived.Test.YtkmkkdjacdcojafOrderOk
import Derived.Test.YtkmkkdjacdcojafOpenInts
set_option linter.unusedVariables false
set_option linter.unusedSimpArgs false
namespace Go.Proofs.Ytkmkkdjacdcojaf
open Go.ChangeShapes Go.WideShapes Go.ChangeAt Go.RowKit Go.Deep Go.Joins
attribute [local go_sem ↓] Go.wp_at_zero Go.wp_at_succ

set_option maxHeartbeats 1600000 in
theorem lawOrderOk_walk (p : Int) (ao : Option Addr) (n cap : Nat) (F T G : Nat → Int) (po : Option Addr) (m pcap : Nat) (P : Nat → Int) (hn : n ≤ maxLen) (hm : m ≤ maxLen) (w : World) (hr : Row w ao n F T G) (hp : IRow w po m P) :
    Calls Try.prog 6 #[.agg #[.int .i64 p, .slice ao n cap], .slice po m pcap] w fun e w' => e = .returned (.bool true) ∧ Below w.heap.size w w' := by
  unfold maxLen at hn hm
  by_cases hbigm : 1048576 < m
  · go_enter Try.func6, Try.ntmps6
    go_wp2
    go_ret
    exact ⟨rfl, (Below.refl _ _).alloc (Nat.le_refl _) _⟩
  have hm' : m ≤ 1048576 := by omega
  by_cases hbig : 1048576 < n
  · go_enter Try.func6, Try.ntmps6
    go_wp2_with (go_at_call 9; refine (szGraph_out p ao n cap 1048576 (by omega) (by omega) (by omega) (by omega) _).mono ?_; rintro e w1 ⟨rfl, hb1⟩)
    go_ret
    exact ⟨rfl, unbox hb1 (by simp)⟩
  have hn' : n ≤ 1048576 := by omega
  go_enter Try.func6, Try.ntmps6
  go_wp2_with fail
  refine (szGraph_in p ao n cap 1048576 (by omega) (by omega) _).mono ?_
  rintro e w1 ⟨rfl, hb1⟩
  have hA1 := boxed hb1
  obtain ⟨x0, x1, xs⟩ := box2 hA1
  go_wp2_with fail
  refine (toGraph_any p ao n cap F T G hn' _ ((hr.alloc _).below hA1 (by simp))).mono ?_
  rintro e w2 ⟨b2, rfl, hb2', hown2, hb2⟩
  have hA2 := below_next hA1 (by simp) hb2
  clear x0 x1 xs
  obtain ⟨x0, x1, xs⟩ := box2 hA2
  go_wp2_with fail
  refine (toInt64S_any po m pcap P hm' _ ((hp.alloc _).below hA2 (by simp))).mono ?_
  rintro e w3 ⟨rfl, hown3, hb3⟩
  have hA3 := below_next hA2 (by simp) hb3
  clear x0 x1 xs
  obtain ⟨x0, x1, xs⟩ := box2 hA3
  go_wp2_with fail
  refine (specOrderOk_any p _ n n F T G _ m m P hn' hm' _ (hown2.row.below hb3 (Nat.le_refl _)) hown3.row).mono ?_
  rintro e w4 ⟨rfl, hb4⟩
  have hA4 := below_next hA3 (by simp) hb4
  clear x0 x1 xs hown2 hown3 hb1 hb2 hb3 hb4 hA1 hA2 hA3 hb2'
  obtain ⟨x0, x1, xs⟩ := box2 hA4
  go_wp2_with fail
  refine (toGraph_any p ao n cap F T G hn' _ ((hr.alloc _).below hA4 (by simp))).mono ?_
  rintro e w5 ⟨b5, rfl, hb5', hown5, hb5⟩
  have hA5 := below_next hA4 (by simp) hb5
  clear x0 x1 xs
  obtain ⟨x0, x1, xs⟩ := box2 hA5
  have hA5' := hA5.alloc xs (.cells #[.int .i64 p, .slice (some ⟨b5, 0, none⟩) n n] 30)
  have hrow5 := hown5.row.alloc (.cells #[.int .i64 p, .slice (some ⟨b5, 0, none⟩) n n] 30)
  clear hown5 hb5 hA4 hb5'
  go_wp2_with fail
  refine (toInt64S_any po m pcap P hm' _ ((hp.alloc _).below hA5' (by simp))).mono ?_
  rintro e w6 ⟨rfl, hown6, hb6⟩
  simp only [World.size_alloc] at hown6
  have u0 := keep_cell hb6 (Nat.le_refl _) (b := w5.heap.size) (o := 0) (by simp [go_sem]; rfl)
  have u1 := keep_cell hb6 (Nat.le_refl _) (b := w5.heap.size) (o := 1) (by simp [go_sem]; rfl)
  have hA6 := below_next hA5' (by simp) hb6
  have hrow6 := hrow5.below hb6 (Nat.le_refl _)
  clear x0 x1 xs hrow5 hb6 hA5 hA5'
  obtain ⟨x0, x1, xs⟩ := box2 hA6
  go_wp2_with fail
  refine (implOrderOk_any p _ n n F T G _ m m P hn' hm' _ hrow6 hown6.row).mono ?_
  rintro e w7 ⟨rfl, hb7⟩
  have hA7 := below_next hA6 (by simp) hb7
  have hrow7 := hrow6.below hb7 (Nat.le_refl _)
  have hown7 := hown6.below hb7 hown6.lt
  replace u0 := keep_cell hb7 (Nat.le_refl _) u0
  replace u1 := keep_cell hb7 (Nat.le_refl _) u1
  clear x0 x1 xs hrow6 hown6 hA6 hb7
  obtain ⟨x0, x1, xs⟩ := box2 hA7
  go_wp2_with fail
  have hA7d := hA7.drew
  have hrow7d := hrow7.below (Below.refl _ w7).drew (Nat.le_refl _)
  have hown7d := hown7.below (Below.refl _ w7).drew hown7.lt
  go_region_held3 (fun w' => w'.cell? ⟨w5.heap.size, 0, none⟩ = some (.int .i64 p) ∧ w'.cell? ⟨w5.heap.size, 1, none⟩ = some (.slice (some ⟨b5, 0, none⟩) n n) ∧ w'.cell? ⟨w.heap.size, 0, none⟩ = some (.int .i64 p) ∧ w'.cell? ⟨w.heap.size, 1, none⟩ = some (.slice ao n cap))
    (first | (go_split_ands; refine ⟨?_, ?_, ?_, ?_⟩ <;> exact keep_cell ‹_› (Nat.le_refl _) (by assumption)) | go_keep)
    (first | (go_at_call 11; refine (toGraph_any p ao n cap F T G hn' _ ((hr.alloc _).below hA7d (by simp))).mono ?_; rintro e w8 ⟨b8, rfl, hb8', hown8, hb8⟩) | (go_at_call 14; refine (eqGraph_same p _ _ n n n F T G hn' _ (hrow7d.below hb8 (Nat.le_refl _)) hown8.row).mono ?_; rintro e w9 ⟨rfl, hb9⟩))
  have hA9 := below_next (below_next hA7d (by simp) hb8) (by simp) hb9
  have hown9 := (hown7d.below hb8 hown7d.lt).below hb9 (hown7d.below hb8 hown7d.lt).lt
  clear hA7 hA7d hrow7 hrow7d hown7 hown7d hb8 hb8' hb9 hown8 x0 x1 xs u0 u1
  go_wp2_with fail
  refine (toInt64S_any po m pcap P hm' _ ((hp.alloc _).below hA9 (by simp))).mono ?_
  rintro e w10 ⟨rfl, hown10, hb10⟩
  have hA10 := below_next hA9 (by simp) hb10
  have hown9' := hown9.below hb10 hown9.lt
  go_wp2_with fail
  refine (eqInt64S_same _ _ m m m P hm' _ hown9'.row hown10.row).mono ?_
  rintro e w11 ⟨rfl, hb11⟩
  have hA11 := below_next hA10 (by simp) hb11
  go_wp2
  go_ret
  exact ⟨rfl, unbox hA11 (by omega)⟩

set_option maxRecDepth 100000 in
theorem lawOrderOk_lifted (os : Os) (started : os.Started) (H : Type) (enc : TypeId × Value → H) :
    ReturnsInHanded {} Try.checked os 6 .any (Rows.fnExactOrderOkSpec.pre6 enc Try.prog Try.f6 Rows.fnExactOrderOkRow.domain false) (Rows.fnExactOrderOkSpec.post enc Try.prog Try.f6 false true false false) := by
  refine returnsInHanded_of_change (C := Try.checked) Try.own started (by kernel_rfl) Try.func6
    (ChangeSpec.witness6 (enc := enc) (C := Try.checked) false ⟨#[], #[.agg #[.int .i64 0, .slice none 0 0], .slice none 0 0], []⟩ 8 (by kernel_rfl) (by kernel_rfl) (by kernel_rfl) (by kernel_rfl)) ?_
  intro W base args ds gs before hval0 hW hcnd _
  have hval : ∀ (j : Nat) t v, Try.f6.params[j]? = some t → args[j]? = some v → Value.okWide Try.prog W .any base t v := hval0
  have hW' := hW
  obtain ⟨p, q, hA0, hV, rfl, hfz, hnd⟩ := hW
  have hA : DataW.TrodAll enc Try.prog W 0 (fun _ => true) true Try.f6.params.toList args.toList ds p := hA0
  rw [Try.params6] at hA hval
  obtain ⟨v0, vs0, d0, ds0, p0, q0, hargs, rfl, rfl, h0, r0⟩ := trodAll_cons hA
  obtain ⟨v1, vs1, d1, ds1, p1, q1, rfl, rfl, rfl, h1, r1⟩ := trodAll_cons r0
  obtain ⟨rfl, rfl, rfl⟩ := trodAll_nil r1
  obtain rfl : args = #[v0, v1] := by cases args; simp_all
  obtain ⟨rfl, rfl⟩ := trodVars_none hV
  have k0 := h0
  have k1 := h1
  have lt0 : ∀ x ∈ p0, x.block < W.heap.size := by obtain ⟨m, hm⟩ := k0; exact DataW.trod_lt m _ _ _ hm
  have lt1 : ∀ x ∈ p1, x.block < W.heap.size := by obtain ⟨m, hm⟩ := k1; exact DataW.trod_lt m _ _ _ hm
  obtain ⟨c0, c1, y0, y1, m, rfl, _, _, hy0, hy1⟩ := open_agg2 Try.underlying24 (by kernel_rfl) Try.cellsLGraph (hval 0 24 v0 rfl rfl) h0
  obtain ⟨pl, e0, _, _⟩ := DataW.trod_int Try.underlying2 hy0
  obtain ⟨ao, n, cap, F, T, G, e1, hn, hr⟩ := open_arcs hy1
  obtain ⟨b1, l1, c1', rfl⟩ := okWide_slice Try.underlying25 (hval 1 25 v1 rfl rfl)
  obtain ⟨f1, hf1⟩ := h1
  obtain ⟨ao2, m2, cap2, A, e2, hm2, hr2, hwf2⟩ := open_nums hf1
  simp [Value.cells] at e0 e1 e2
  obtain ⟨rfl, rfl, rfl⟩ := e2
  subst e0 e1
  clear hA0 hval0
  refine (lawOrderOk_walk pl ao n cap F T G b1 l1 c1' A hn hm2 W hr hr2).mono fun e W' ⟨he, bel⟩ => ?_
  subst he
  exact ⟨_, rfl, _, _, _, [], _, [], hW', trodAll_mk1 (shut_bool Try.underlying4 _), (trodAll_cons_mk (Below.trod Try.laidOut (by kernel_rfl) (of_decide_eq_true (by kernel_rfl)) k0 bel lt0) (trodAll_cons_mk (Below.trod Try.laidOut (by kernel_rfl) (of_decide_eq_true (by kernel_rfl)) k1 bel lt1) trodAll_mk0)), rfl, bel.frame _, fun h => by cases h⟩

theorem fnExactOrderOk_holds : Rows.FnExactOrderOkSaid :=
  OpenClaim.holds_of_wide 6 Try.f6 rfl rfl rfl rfl rfl rfl rfl ⟨rfl, rfl, rfl, rfl, rfl⟩ rfl rfl rfl rfl rfl (by kernel_rfl) Try.func6 (by kernel_rfl)
    (of_decide_eq_true (by kernel_rfl)) (by unfold Func.isWrapper; first | (rw [if_pos (by decide +kernel)]; kernel_rfl) | (rw [if_neg (by decide +kernel)]; exact ⟨rfl, rfl⟩))
    (fun os started H enc _ => lawOrderOk_lifted os started H enc)
#print axioms fnExactOrderOk_holds

end Go.Proofs.Ytkmkkdjacdcojaf
