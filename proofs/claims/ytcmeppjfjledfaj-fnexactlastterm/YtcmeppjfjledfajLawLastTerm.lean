/-
  Proved: at every list of entries the law FnExactLastTerm answers true, and its argument reads behind the call as it read before. No condition.
-/
import Derived.Test.YtcmeppjfjledfajLogT
import Derived.Test.YtcmeppjfjledfajEntLaw
set_option linter.unusedVariables false
set_option linter.unusedSimpArgs false
namespace Go.Proofs.Ytcmeppjfjledfaj
open Go.ChangeShapes Go.WideShapes Go.ChangeAt Go.RowKit Go.Deep Go.Joins
attribute [local go_sem ↓] Go.wp_at_zero Go.wp_at_succ

theorem specLastTerm_any (ao : Option Addr) (n cap : Nat) (T : Nat → Int) (X : Nat → ByteArray) (hn : n ≤ 9223372036854775807) (w : World) (hr : NRow w ao n T X) :
    Calls Try.prog 14 #[.slice ao n cap] w fun e w' => e = .returned (.int .i64 (lastT n T)) ∧ w' = w := by
  go_enter Try.func14, Try.ntmps14
  go_wp2_with (go_at_call 27; refine (l10Last_any ao n cap T X hn _ hr).mono ?_; rintro e w1 ⟨rfl, rfl⟩)
  go_ret
  exact ⟨rfl, rfl⟩

set_option maxHeartbeats 4000000 in
theorem lawLastTerm_walk (ao : Option Addr) (n cap : Nat) (T : Nat → Int) (X : Nat → ByteArray) (hn : n ≤ maxLen) (hX : ∀ k, k < n → (X k).size ≤ maxLen) (w : World) (hr : NRow w ao n T X) :
    Calls Try.prog 5 #[.slice ao n cap] w fun e w' => e = .returned (.bool true) ∧ Below w.heap.size w w' := by
  unfold maxLen at hn hX
  go_enter Try.func5, Try.ntmps5
  go_wp2_with fail
  refine (szEntryS_any ao n cap T X 1048576 (by omega) (by omega) (by omega) (fun k hk => by have := hX k hk; omega) _ hr).mono ?_
  rintro e w0 ⟨r, rfl, hr1, hr2, hr3, hb0⟩
  by_cases hneg : r < 0
  · go_wp2
    go_ret
    exact ⟨rfl, hb0⟩
  obtain ⟨hnl, _, _⟩ := hr1 (by omega)
  have hn' : n ≤ 1048576 := by omega
  have hrow0 := hr.below hb0 (Nat.le_refl _)
  go_wp2_with fail
  refine (toEntryS_any ao n cap T X hn' _ hrow0).mono ?_
  rintro e w1 ⟨rfl, hown1, hb1⟩
  have hA1 := below_next hb0 (Nat.le_refl _) hb1
  go_wp2_with fail
  refine (specLastTerm_any _ n n T X (by omega) _ (nhas_row hown1)).mono ?_
  rintro e w2 ⟨rfl, hq⟩
  have hq' := hq.symm
  subst hq'
  clear hq
  go_wp2_with fail
  refine (toEntryS_any ao n cap T X hn' _ (hr.below hA1 (Nat.le_refl _))).mono ?_
  rintro e w3 ⟨rfl, hX3, hb3⟩
  have hA3 := below_next hA1 (Nat.le_refl _) hb3
  go_wp2_with fail
  refine (implLastTerm_any _ n n T X (by omega) _ (nhas_row hX3)).mono ?_
  rintro e w4 ⟨rfl, hq⟩
  have hq' := hq.symm
  subst hq'
  clear hq
  go_wp2_with fail
  refine (toEntryS_any ao n cap T X hn' _ (hr.below hA3 (Nat.le_refl _))).mono ?_
  rintro e w5 ⟨rfl, hY5, hb5⟩
  have hA5 := below_next hA3 (Nat.le_refl _) hb5
  have hX5 := hX3.below hb5 hX3.lt
  go_wp2_with fail
  refine (eqEntryS_same _ _ n n n T X hn' _ (nhas_row hX5) (nhas_row hY5)).mono ?_
  rintro e w6 ⟨rfl, hb6⟩
  have hA6 := below_next hA5 (Nat.le_refl _) hb6
  go_wp2
  go_ret
  exact ⟨rfl, hA6⟩

set_option maxRecDepth 100000 in
theorem lawLastTerm_lifted (os : Os) (started : os.Started) (H : Type) (enc : TypeId × Value → H) :
    ReturnsInHanded {} Try.checked os 5 .any (Rows.fnExactLastTermSpec.pre6 enc Try.prog Try.f5 Rows.fnExactLastTermRow.domain false) (Rows.fnExactLastTermSpec.post enc Try.prog Try.f5 false true false false) := by
  refine returnsInHanded_of_change (C := Try.checked) Try.own started (by kernel_rfl) Try.func5
    (ChangeSpec.witness6 (enc := enc) (C := Try.checked) false ⟨#[], #[.slice none 0 0], []⟩ 8 (by kernel_rfl) (by kernel_rfl) (by kernel_rfl) (by kernel_rfl)) ?_
  intro W base args ds gs before hval0 hW hcnd _
  have hval : ∀ (j : Nat) t v, Try.f5.params[j]? = some t → args[j]? = some v → Value.okWide Try.prog W .any base t v := hval0
  have hW' := hW
  obtain ⟨p, q, hA0, hV, rfl, hfz, hnd⟩ := hW
  have hA : DataW.TrodAll enc Try.prog W 0 (fun _ => true) true Try.f5.params.toList args.toList ds p := hA0
  rw [Try.params5] at hA hval
  obtain ⟨v0, vs0, d0, ds0, p0, q0, hargs, rfl, rfl, h0, r0⟩ := trodAll_cons hA
  obtain ⟨rfl, rfl, rfl⟩ := trodAll_nil r0
  obtain rfl : args = #[v0] := by cases args; simp_all
  obtain ⟨rfl, rfl⟩ := trodVars_none hV
  have k0 := h0
  have lt0 : ∀ x ∈ p0, x.block < W.heap.size := by obtain ⟨m, hm⟩ := k0; exact DataW.trod_lt m _ _ _ hm
  obtain ⟨b1, l1, c1', rfl⟩ := okWide_slice Try.underlying31 (hval 0 31 v0 rfl rfl)
  obtain ⟨f0, hf0⟩ := h0
  obtain ⟨ao2, m2, cap2, T2, X2, e2, hm2, hr2, _, hx2⟩ := open_entries hf0
  simp [Value.cells] at e2
  obtain ⟨rfl, rfl, rfl⟩ := e2
  clear hA0 hval0
  refine (lawLastTerm_walk b1 l1 c1' T2 X2 hm2 hx2 W hr2).mono fun e W' ⟨he, bel⟩ => ?_
  subst he
  exact ⟨_, rfl, _, _, _, [], _, [], hW', trodAll_mk1 (shut_bool Try.underlying4 _), (trodAll_cons_mk (Below.trod Try.laidOut (by kernel_rfl) (of_decide_eq_true (by kernel_rfl)) k0 bel lt0) trodAll_mk0), rfl, bel.frame _, fun h => by cases h⟩

theorem fnExactLastTerm_holds : Rows.FnExactLastTermSaid :=
  OpenClaim.holds_of_wide 5 Try.f5 rfl rfl rfl rfl rfl rfl rfl ⟨rfl, rfl, rfl, rfl, rfl⟩ rfl rfl rfl rfl rfl (by kernel_rfl) Try.func5 (by kernel_rfl)
    (of_decide_eq_true (by kernel_rfl)) (by unfold Func.isWrapper; first | (rw [if_pos (by decide +kernel)]; kernel_rfl) | (rw [if_neg (by decide +kernel)]; exact ⟨rfl, rfl⟩))
    (fun os started H enc _ => lawLastTerm_lifted os started H enc)
#print axioms fnExactLastTerm_holds

end Go.Proofs.Ytcmeppjfjledfaj
