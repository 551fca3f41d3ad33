/-
  Proved: at every map the law FnExactOrder answers true, and its argument reads behind the call as it read before. No condition.
-/
import Derived.Test.YtkmkkdjacdcojafAnsLaw
import Derived.Test.YtkmkkdjacdcojafOrdImpl
set_option linter.unusedVariables false
set_option linter.unusedSimpArgs false
namespace Go.Proofs.Ytkmkkdjacdcojaf
open Go.ChangeShapes Go.WideShapes Go.ChangeAt Go.RowKit Go.Deep Go.Joins
attribute [local go_sem ↓] Go.wp_at_zero Go.wp_at_succ

set_option maxHeartbeats 4000000 in
theorem lawOrder_walk (p : Int) (ao : Option Addr) (n cap : Nat) (F T G : Nat → Int) (hn : n ≤ maxLen) (w : World) (hr : Row w ao n F T G) :
    Calls Try.prog 5 #[.agg #[.int .i64 p, .slice ao n cap]] w fun e w' => e = .returned (.bool true) ∧ Below w.heap.size w w' := by
  unfold maxLen at hn
  by_cases hbig : 1048576 < n
  · go_enter Try.func5, Try.ntmps5
    go_wp2_with (go_at_call 9; refine (szGraph_out p ao n cap 1048576 (by omega) (by omega) (by omega) (by omega) _).mono ?_; rintro e w1 ⟨rfl, hb1⟩)
    go_ret
    exact ⟨rfl, unbox hb1 (by simp)⟩
  have hn' : n ≤ 1048576 := by omega
  obtain ⟨m, hm⟩ : ∃ m, lenO p n F T G = m := ⟨_, rfl⟩
  obtain ⟨D, hD⟩ : ∃ D, listO p n F T = D := ⟨_, rfl⟩
  have hm24 : m ≤ 24 := by rw [← hm]; exact lenO_le p n F T G
  have hspec := fun ao' cap' W hr' => specOrder_any p ao' n cap' F T G hn' W hr'
  have himpl := fun ao' cap' W hr' => implOrder_any p ao' n cap' F T G hn' W hr'
  rw [hm, hD] at hspec himpl
  have HSP : Hid (∀ ao' cap' W, Row W ao' n F T G → Calls Try.prog 21 #[.agg #[.int .i64 p, .slice ao' n cap']] W fun e w' => Ans W w' e m D) := hspec
  have HIM : Hid (∀ ao' cap' W, Row W ao' n F T G → Calls Try.prog 22 #[.agg #[.int .i64 p, .slice ao' n cap']] W fun e w' => Ans W w' e m D) := himpl
  clear hspec himpl hm hD
  go_enter Try.func5, Try.ntmps5
  go_wp2_with fail
  refine (szGraph_in p ao n cap 1048576 (by omega) (by omega) _).mono ?_
  rintro e w1 ⟨rfl, hb1⟩
  have hA1 := boxed hb1
  obtain ⟨x0, x1, xs⟩ := box2 hA1
  go_wp2_with fail
  refine (toGraph_any p ao n cap F T G hn' _ ((hr.alloc _).below hA1 (by simp))).mono ?_
  rintro e w2 ⟨b2, rfl, hb2', hown2, hb2⟩
  have hA2 := below_next hA1 (by simp) hb2
  go_wp2_with fail
  refine (HSP.out _ _ _ hown2.row).mono ?_
  rintro e w3 ⟨aoW, capW, rfl, hW, hb3⟩
  have hA3 := below_next hA2 (by simp) hb3
  clear x0 x1 xs hown2 hb1 hb2 hA1 hb2'
  obtain ⟨x0, x1, xs⟩ := box2 hA2
  obtain ⟨gw, hgw1, hgw2, hgw3⟩ : ∃ gw, (0 < m → aoW = some ⟨gw, 0, none⟩) ∧ gw < w3.heap.size ∧ (0 < m → IHas w3 gw m D) := by
    by_cases h0 : 0 < m
    · obtain ⟨g, e, _, hI⟩ := hW h0
      exact ⟨g, fun _ => e, hI.lt, fun _ => hI⟩
    · exact ⟨0, fun h => absurd h h0, by have := hb3.size; omega, fun h => absurd h h0⟩
  clear hW hb3 hA2 x0 x1 xs
  obtain ⟨x0, x1, xs⟩ := box2 hA3
  go_wp2_with fail
  refine (toGraph_any p ao n cap F T G hn' _ ((hr.alloc _).below hA3 (by simp))).mono ?_
  rintro e w4 ⟨bX, rfl, hbX, hownX, hb4⟩
  have hA4 := below_next hA3 (by simp) hb4
  have hgw4 : 0 < m → IHas w4 gw m D := fun h => (hgw3 h).below hb4 (hgw3 h).lt
  have hbX4 : bX < w4.heap.size := World.rowIs.lt hownX
  have hs4 : w3.heap.size ≤ w4.heap.size := hb4.size
  clear x0 x1 hgw3 hb4
  have hal := (Below.refl w4.heap.size w4).alloc (Nat.le_refl _) (.cells #[.int .i64 p, .slice (some ⟨bX, 0, none⟩) n n] 30)
  have hA5 := below_next hA4 (by simp) hal
  have hX5 := (Has.of_own hownX).below hal hbX4
  have hgw5 : 0 < m → IHas (w4.alloc (.cells #[.int .i64 p, .slice (some ⟨bX, 0, none⟩) n n] 30)) gw m D := fun h => (hgw4 h).below hal (hgw4 h).lt
  clear hownX hgw4 hA3 hA4
  go_wp2_with fail
  refine (HIM.out _ _ _ hX5.row).mono ?_
  rintro e w6 ⟨aoG, capG, rfl, hG, hb6⟩
  have hA6 := below_next hA5 (by simp) hb6
  have hX6 := hX5.below hb6 hX5.lt
  have u0 := keep_cell hb6 (Nat.le_refl _) (b := w4.heap.size) (o := 0) (by simp [go_sem]; rfl)
  have u1 := keep_cell hb6 (Nat.le_refl _) (b := w4.heap.size) (o := 1) (by simp [go_sem]; rfl)
  have hs6 := hb6.size
  simp only [World.size_alloc] at hs6
  obtain ⟨bg, hbg1, hbg2, hbg3⟩ : ∃ bg, (0 < m → aoG = some ⟨bg, 0, none⟩) ∧ w4.heap.size < bg ∧ (0 < m → IHas w6 bg m D) := by
    by_cases h0 : 0 < m
    · obtain ⟨g, e, hge, hI⟩ := hG h0
      simp only [World.size_alloc] at hge
      exact ⟨g, fun _ => e, by omega, fun _ => hI⟩
    · exact ⟨w4.heap.size + 1, fun h => absurd h h0, by omega, fun h => absurd h h0⟩
  have hS : SD (w.heap.size + 1) _ w6 m D D gw bg := ⟨hA6, fun h => (hgw5 h).below hb6 (hgw5 h).lt, hbg3⟩
  clear hG hb6 hA5 hA6 hX5 hgw5 hbg3 hal
  have hm' : m ≤ 1048576 := by omega
  go_wp2_with fail
  refine (eqInt64S_same aoG aoW m capG capW D hm' _ (irow_of hbg1 hS.own) (irow_of hgw1 hS.doc)).mono ?_
  rintro e w7 ⟨rfl, hb7⟩
  replace hS := hS.next (by simp) hb7
  have hX7 := hX6.below hb7 hX6.lt
  replace u0 := keep_cell hb7 (Nat.le_refl _) u0
  replace u1 := keep_cell hb7 (Nat.le_refl _) u1
  clear hX6 hb7
  obtain ⟨x0, x1, xs'⟩ := box2 hS.hA
  go_wp2_with fail
  have hSd := hS.next (by simp) (Below.refl _ w7).drew
  have hXd := hX7.below (Below.refl _ w7).drew hX7.lt
  go_region_held3 (fun w' => w'.cell? ⟨w4.heap.size, 0, none⟩ = some (.int .i64 p) ∧ w'.cell? ⟨w4.heap.size, 1, none⟩ = some (.slice (some ⟨bX, 0, none⟩) n n) ∧ w'.cell? ⟨w.heap.size, 0, none⟩ = some (.int .i64 p) ∧ w'.cell? ⟨w.heap.size, 1, none⟩ = some (.slice ao n cap))
    (first | (go_split_ands; refine ⟨?_, ?_, ?_, ?_⟩ <;> exact keep_cell ‹_› (Nat.le_refl _) (by assumption)) | go_keep)
    (first | (go_at_call 11; refine (toGraph_any p ao n cap F T G hn' _ ((hr.alloc _).below hSd.hA (by simp))).mono ?_; rintro e w8 ⟨b8, rfl, hb8', hown8, hb8⟩) | (go_at_call 14; refine (eqGraph_same p _ _ n n n F T G hn' _ (hXd.below hb8 hXd.lt).row hown8.row).mono ?_; rintro e w9 ⟨rfl, hb9⟩))
  replace hS := (hSd.next (by simp) hb8).next (by simp) hb9
  have hX9 := (hXd.below hb8 hXd.lt).below hb9 (hXd.below hb8 hXd.lt).lt
  have v0 : w9.cell? ⟨w4.heap.size, 0, none⟩ = some (.int .i64 p) := keep_cell hb9 (Nat.le_refl _) (keep_cell hb8 (Nat.le_refl _) u0)
  have v1 : w9.cell? ⟨w4.heap.size, 1, none⟩ = some (.slice (some ⟨bX, 0, none⟩) n n) := keep_cell hb9 (Nat.le_refl _) (keep_cell hb8 (Nat.le_refl _) u1)
  clear hSd hXd hX7 hb8 hb8' hb9 hown8 x0 x1 xs' u0 u1
  go_wp2_with fail
  refine (markGraph_any p bX n n (ar F T G) 1 (by omega) (by omega) hn' _ (fun _ => hX9) _ (fun _ => rfl)).mono ?_
  rintro e w10 ⟨rfl, _, hg10⟩
  replace hS := hS.aside (by simp) hg10 (by omega) (by omega) (by omega)
  clear hX9 hg10 v0 v1
  go_wp2_with fail
  refine (eqInt64S_same aoG aoW m capG capW D hm' _ (irow_of hbg1 hS.own) (irow_of hgw1 hS.doc)).mono ?_
  rintro e w11 ⟨rfl, hb11⟩
  replace hS := hS.next (by simp) hb11
  clear hb11
  go_wp2_with fail
  refine (markInt64S_any bg m capG D 1 (by omega) (by omega) hm' _ hS.own aoG hbg1).mono ?_
  rintro e w12 ⟨rfl, hm12, hg12⟩
  replace hS := hS.marked (by simp) hg12 hm12 (by omega) (by omega)
  clear hm12 hg12
  go_wp2_with fail
  refine (heldInt64S_any bg m capG 1 (by omega) (by omega) hm' _ hS.own aoG hbg1).mono ?_
  rintro e w13 ⟨rfl, hq⟩
  have hq' := hq.symm
  subst hq'
  clear hq
  obtain ⟨x0, x1, xs'⟩ := box2 hS.hA
  go_wp2_with fail
  refine (toGraph_any p ao n cap F T G hn' _ ((hr.alloc _).below hS.hA (by simp))).mono ?_
  rintro e w14 ⟨b14, rfl, hb14', hown14, hb14⟩
  replace hS := hS.next (by simp) hb14
  clear x0 x1 xs' hb14
  go_wp2_with fail
  refine (HIM.out _ _ _ hown14.row).mono ?_
  rintro e w15 ⟨aoH, capH, rfl, hH, hb15⟩
  replace hS := hS.next (by simp) hb15
  have hrowH : IRow w15 aoH m D := fun k hk => by
    obtain ⟨g, e, _, hI⟩ := hH (by omega)
    subst e
    exact hI.row k hk
  clear hH hb15 hown14 hb14'
  go_wp2_with fail
  refine (eqInt64S_same aoH aoW m capH capW D hm' _ hrowH (irow_of hgw1 hS.doc)).mono ?_
  rintro e w16 ⟨rfl, hb16⟩
  replace hS := hS.next (by simp) hb16
  clear hb16 hrowH
  go_wp2_with fail
  refine (heldInt64S_any bg m capG 1 (by omega) (by omega) hm' _ hS.own aoG hbg1).mono ?_
  rintro e w17 ⟨rfl, hq⟩
  have hq' := hq.symm
  subst hq'
  clear hq
  go_wp2
  go_ret
  exact ⟨rfl, unbox hS.hA (by omega)⟩

set_option maxRecDepth 100000 in
theorem lawOrder_lifted (os : Os) (started : os.Started) (H : Type) (enc : TypeId × Value → H) :
    ReturnsInHanded {} Try.checked os 5 .any (Rows.fnExactOrderSpec.pre6 enc Try.prog Try.f5 Rows.fnExactOrderRow.domain false) (Rows.fnExactOrderSpec.post enc Try.prog Try.f5 false true false false) := by
  refine returnsInHanded_of_change (C := Try.checked) Try.own started (by kernel_rfl) Try.func5
    (ChangeSpec.witness6 (enc := enc) (C := Try.checked) false ⟨#[], #[.agg #[.int .i64 0, .slice none 0 0]], []⟩ 8 (by kernel_rfl) (by kernel_rfl) (by kernel_rfl) (by kernel_rfl)) ?_
  intro W base args ds gs before hval0 hW hcnd _
  have hval : ∀ (j : Nat) t v, Try.f5.params[j]? = some t → args[j]? = some v → Value.okWide Try.prog W .any base t v := hval0
  have hW' := hW
  obtain ⟨p, q, hA0, hV, rfl, hfz, hnd⟩ := hW
  have hA : DataW.TrodAll enc Try.prog W 0 (fun _ => true) true Try.f5.params.toList args.toList ds p := hA0
  rw [Try.params5] at hA hval
  obtain ⟨v0, vs0, d0, ds0, p0, q0, hargs, rfl, rfl, h0, r0⟩ := trodAll_cons hA
  obtain ⟨rfl, rfl, rfl⟩ := trodAll_nil r0
  obtain rfl : args = #[v0] := by cases args; simp_all
  obtain ⟨rfl, rfl⟩ := trodVars_none hV
  have k0 := h0
  have lt0 : ∀ x ∈ p0, x.block < W.heap.size := by obtain ⟨m, hm⟩ := k0; exact DataW.trod_lt m _ _ _ hm
  obtain ⟨c0, c1, y0, y1, m, rfl, _, _, hy0, hy1⟩ := open_agg2 Try.underlying24 (by kernel_rfl) Try.cellsLGraph (hval 0 24 v0 rfl rfl) h0
  obtain ⟨pl, e0, _, _⟩ := DataW.trod_int Try.underlying2 hy0
  obtain ⟨ao, n, cap, F, T, G, e1, hn, hr⟩ := open_arcs hy1
  simp at e0 e1
  subst e0 e1
  clear hA0 hval0
  refine (lawOrder_walk pl ao n cap F T G hn W hr).mono fun e W' ⟨he, bel⟩ => ?_
  subst he
  exact ⟨_, rfl, _, _, _, [], _, [], hW', trodAll_mk1 (shut_bool Try.underlying4 _), (trodAll_cons_mk (Below.trod Try.laidOut (by kernel_rfl) (of_decide_eq_true (by kernel_rfl)) k0 bel lt0) trodAll_mk0), rfl, bel.frame _, fun h => by cases h⟩

theorem fnExactOrder_holds : Rows.FnExactOrderSaid :=
  OpenClaim.holds_of_wide 5 Try.f5 rfl rfl rfl rfl rfl rfl rfl ⟨rfl, rfl, rfl, rfl, rfl⟩ rfl rfl rfl rfl rfl (by kernel_rfl) Try.func5 (by kernel_rfl)
    (of_decide_eq_true (by kernel_rfl)) (by unfold Func.isWrapper; first | (rw [if_pos (by decide +kernel)]; kernel_rfl) | (rw [if_neg (by decide +kernel)]; exact ⟨rfl, rfl⟩))
    (fun os started H enc _ => lawOrder_lifted os started H enc)
#print axioms fnExactOrder_holds

end Go.Proofs.Ytkmkkdjacdcojaf
