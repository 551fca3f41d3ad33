/-
  Proved: at every number the law FnExactNewCluster answers true, and the variable errNoLog reads behind the call as it read before; what it reads as is tied to the program's text. No condition.
-/
import Derived.Test.YticckgmkhgnmfaaDoorCluE
import Derived.Test.YticckgmkhgnmfaaDoorCluN
import Derived.Test.YticckgmkhgnmfaaDoorCluS
import Derived.ProofKit
import Derived.LaidMore
import Derived.OpenShut
import Derived.OpenVars
import Derived.ChangeVars
import Derived.Stop.Joined
import Derived.Stop.LaidErr
import Derived.ChangeMaps5
import Derived.Shelf.Vars
import Derived.Handed
import Derived.Lay
import Derived.SevenTiedAt
import Derived.Test.YticckgmkhgnmfaaDoorTie
import Derived.Test.YticckgmkhgnmfaaDoorCards
set_option linter.unusedVariables false
set_option linter.unusedSimpArgs false
namespace Go.Proofs.YticckgmkhgnmfaaDoor
open Go.ChangeShapes Go.WideShapes Go.ChangeAt Go Go.RowKit Go.Deep Go.Joins
attribute [local go_sem ↓] Go.wp_at_zero Go.wp_at_succ

theorem GOwn.blk9 {w : World} {base : Nat} {t : TypeId} {ao : Option Addr} {n cap : Nat} {f : Nat → Value} (h : GOwn w base t 10 ao n cap f) : ∃ b, 0 < n → ao = some ⟨b, 0, none⟩ ∧ base ≤ b ∧ VHas w b t (n * 10) f := by
  rcases Nat.eq_zero_or_pos n with q | q
  · exact ⟨0, fun h => by omega⟩
  · obtain ⟨g, h1, h2, h3⟩ := h.vhas q
    exact ⟨g, fun _ => ⟨h1, h2, h3⟩⟩
theorem GOwn.lr {w : World} {base : Nat} {ao : Option Addr} {cap : Nat} {p : Int} {K : Nat} (h : GOwn w base 51 10 ao K cap (lf (clc (newL p K)))) : LRow w 51 ao (clc (newL p K)) := GOwn.lrow h (by rw [clc_len, newL_len])
set_option maxRecDepth 100000 in
set_option maxHeartbeats 8000000 in
theorem lawNewC_walk (p : Int) (a : Addr) (w : World) (hV : w.cell? ⟨0, 0, none⟩ = some (.iface 180 (.pointer (some a)))) : Calls Tryd.prog 3 #[.int .i64 p] w fun e w' => e = .returned (.bool true) ∧ Below w.heap.size w w' := by
  have HS : Hid (∀ W, Calls Tryd.prog 5 #[.int .i64 p] W fun e w' => NcAns W w' e p) := fun W => specNewCluster_any p W
  have HI : Hid (∀ W, RB w W → Calls Tryd.prog 6 #[.int .i64 p] W fun e w' => NcAns W w' e p) := fun W h => implNewCluster_any p a W (keep_cell h (Nat.le_refl _) hV)
  have hK5 : nK p ≤ 5 := by
    unfold nK
    split <;> omega
  unfold NcAns at HS HI
  obtain ⟨K, hK⟩ : ∃ K, K = nK p := ⟨_, rfl⟩
  obtain ⟨B, hB⟩ : ∃ B, B = nB p := ⟨_, rfl⟩
  rw [← hK, ← hB] at HS HI
  rw [← hK] at hK5
  clear hK hB
  have HE : Hid (∀ ao ao' cap cap' W, LRow W 51 ao (clc (newL p K)) → LRow W 51 ao' (clc (newL p K)) → Calls Tryd.prog 7 #[.agg #[.slice ao K cap, .slice none 0 0], .agg #[.slice ao' K cap', .slice none 0 0]] W fun e w' => e = .returned (.bool true) ∧ RB W w') := fun ao ao' cap cap' W h1 h2 => by
    have := eqCluster_any (newL p K) (newL_nil p K) (by rw [newL_len]; omega) ao ao' cap cap' W h1 h2
    rw [newL_len] at this
    exact this
  have HM : Hid (∀ b cap ao W, (0 < K → VHas W b 51 (K * 10) (lf (clc (newL p K)))) → (0 < K → ao = some ⟨b, 0, none⟩) → Calls Tryd.prog 8 #[.agg #[.slice ao K cap, .slice none 0 0], .int .i64 1] W fun e w' => e = .returned (.int .i64 (1 + 6 * (K : Int))) ∧ (0 < K → VHas w' b 51 (K * 10) (lf (clc (mkL 1 K)))) ∧ W.grownBy w' (rwQ K b)) := fun b cap ao W h1 h2 => by
    have := markCluster_any (newL p K) (newL_nil p K) (by rw [newL_len]; omega) b cap 1 (by omega) W (by rw [newL_len]; exact h1) ao (by rw [newL_len]; exact h2)
    rw [newL_len] at this
    exact this
  have HH : Hid (∀ b cap ao W, (0 < K → VHas W b 51 (K * 10) (lf (clc (mkL 1 K)))) → (0 < K → ao = some ⟨b, 0, none⟩) → Calls Tryd.prog 9 #[.agg #[.slice ao K cap, .slice none 0 0], .int .i64 1] W fun e w' => e = .returned (.int .i64 (1 + 6 * (K : Int))) ∧ RB W w') := fun b cap ao W h1 h2 => heldCluster_any K (by omega) b cap 1 (by omega) W h1 ao h2
  have hbb : (B != B) = false := by simp
  have hn1 : ¬ 1 + 6 * (K : Int) < 0 := by omega
  have hn2 : (1 + 6 * (K : Int) != 1 + 6 * (K : Int)) = false := by simp
  clear hV
  go_enter Tryd.func3, Tryd.ntmps3
  go_wp2_with fail
  refine (HS.out _).mono ?_
  rintro e w1 ⟨a1, c1, rfl, o1, hb1⟩
  have hx1 : ∀ x, (Value.slice a1 K c1).ownBlock = some x → x < w1.heap.size := fun x e => (o1.at e).2
  have hal1 := RB.alloc w1 (.cells #[.slice a1 K c1, .slice none 0 0] 25)
  have v1 : VHas (w1.alloc (.cells #[.slice a1 K c1, .slice none 0 0] 25)) w1.heap.size 25 2 (lf [.slice a1 K c1, .slice none 0 0]) := box_new w1 [.slice a1 K c1, .slice none 0 0] 25
  have hB := RB.trans _ _ _ hb1 hal1
  replace o1 := o1.next hal1
  go_wp2_with fail
  have hszA : w1.heap.size ≤ (w1.alloc (.cells #[.slice a1 K c1, .slice none 0 0] 25)).heap.size := hal1.size
  generalize (w1.alloc (.cells #[.slice a1 K c1, .slice none 0 0] 25)) = W1 at hB v1 o1 hszA ⊢
  have hsz1 : w.heap.size ≤ w1.heap.size := hb1.size
  clear hal1 hb1
  refine (HI.out _ hB).mono ?_
  rintro e w2 ⟨a2, c2, rfl, o2, hb2⟩
  have hal2 := RB.alloc w2 (.cells #[.slice a2 K c2, .slice none 0 0] 25)
  have v2 : VHas (w2.alloc (.cells #[.slice a2 K c2, .slice none 0 0] 25)) w2.heap.size 25 2 (lf [.slice a2 K c2, .slice none 0 0]) := box_new w2 [.slice a2 K c2, .slice none 0 0] 25
  replace hB := RB.trans _ _ _ (RB.trans _ _ _ hB hb2) hal2
  replace v1 := (v1.next hb2).next hal2
  replace o1 := (o1.next hb2).next hal2
  replace o2 := o2.next hal2
  have y0 := v1.cell (j := 0) (by omega)
  have y1 := v1.cell (j := 1) (by omega)
  have z0 := v2.cell (j := 0) (by omega)
  have z1 := v2.cell (j := 1) (by omega)
  simp [lf] at y0 y1 z0 z1
  go_wp2_with fail
  generalize (w2.alloc (.cells #[.slice a2 K c2, .slice none 0 0] 25)) = W2 at hB v1 v2 o1 o2 y0 y1 z0 z1 ⊢
  generalize w2.heap.size = x2 at v2 z0 z1 ⊢
  clear hb2 hal2
  refine (HE.out _ _ _ _ _ o2.lr o1.lr).mono ?_
  rintro e w3 ⟨rfl, hb3⟩
  clear y0 y1 z0 z1
  replace hB := RB.trans _ _ _ hB hb3
  replace v1 := v1.next hb3
  replace v2 := v2.next hb3
  replace o1 := o1.next hb3
  replace o2 := o2.next hb3
  have z0 := v2.cell (j := 0) (by omega)
  have z1 := v2.cell (j := 1) (by omega)
  simp [lf] at z0 z1
  clear hb3
  obtain ⟨b2, hb2⟩ := GOwn.blk9 o2
  go_wp2_with fail
  refine (HM.out b2 _ _ _ (fun hp => (hb2 hp).2.2) (fun hp => (hb2 hp).1)).mono ?_
  rintro e w4 ⟨rfl, k4, hg4⟩
  have hT4 : ∀ x, rwQ K b2 = some x → Typed w3 x 51 := fun x e => by rw [(rwQ_pos e).2]; exact (hb2 (rwQ_pos e).1).2.2.typed
  replace hB := below_row hB hg4 (fun x e => by rw [(rwQ_pos e).2]; have := (hb2 (rwQ_pos e).1).2.1; omega)
  replace v1 := VHas.gr v1 hg4 hT4 (by decide)
  replace v2 := VHas.gr v2 hg4 hT4 (by decide)
  replace o1 := GOwn.grown o1 hg4 (fun x e q => by have h1 := hx1 x e; have h2 := rwQ_pos q; have := (hb2 h2.1).2.1; omega)
  have ha2 : 0 < K → a2 = some ⟨b2, 0, none⟩ := fun hp => (hb2 hp).1
  clear hg4 hT4 o2 z0 z1 hb2
  have z0 := v2.cell (j := 0) (by omega)
  have z1 := v2.cell (j := 1) (by omega)
  simp [lf] at z0 z1
  go_wp2_with fail
  refine (HH.out b2 _ _ _ k4 ha2).mono ?_
  rintro e w5 ⟨rfl, hb5⟩
  replace hB : RB w w5 := RB.trans _ _ _ hB hb5
  replace v1 := v1.next hb5
  replace v2 := v2.next hb5
  replace o1 := o1.next hb5
  replace k4 : 0 < K → VHas w5 b2 51 (K * 10) (lf (clc (mkL 1 K))) := fun hp => (k4 hp).next hb5
  clear hb5 z0 z1
  go_wp2_with fail
  refine (HI.out _ hB).mono ?_
  rintro e w6 ⟨a6, c6, rfl, o6, hb6⟩
  have hal6 := RB.alloc w6 (.cells #[.slice a6 K c6, .slice none 0 0] 25)
  have v6 : VHas (w6.alloc (.cells #[.slice a6 K c6, .slice none 0 0] 25)) w6.heap.size 25 2 (lf [.slice a6 K c6, .slice none 0 0]) := box_new w6 [.slice a6 K c6, .slice none 0 0] 25
  replace hB := RB.trans _ _ _ (RB.trans _ _ _ hB hb6) hal6
  replace v1 := (v1.next hb6).next hal6
  replace v2 := (v2.next hb6).next hal6
  replace o1 := (o1.next hb6).next hal6
  replace o6 := o6.next hal6
  replace k4 : 0 < K → VHas _ b2 51 (K * 10) (lf (clc (mkL 1 K))) := fun hp => ((k4 hp).next hb6).next hal6
  have y0 := v1.cell (j := 0) (by omega)
  have y1 := v1.cell (j := 1) (by omega)
  have z0 := v6.cell (j := 0) (by omega)
  have z1 := v6.cell (j := 1) (by omega)
  simp [lf] at y0 y1 z0 z1
  go_wp2_with fail
  refine (HE.out _ _ _ _ _ o6.lr o1.lr).mono ?_
  rintro e w7 ⟨rfl, hb7⟩
  clear y0 y1 z0 z1
  replace hB := RB.trans _ _ _ hB hb7
  replace v2 := v2.next hb7
  replace k4 : 0 < K → VHas w7 b2 51 (K * 10) (lf (clc (mkL 1 K))) := fun hp => (k4 hp).next hb7
  have z0 := v2.cell (j := 0) (by omega)
  have z1 := v2.cell (j := 1) (by omega)
  simp [lf] at z0 z1
  go_wp2_with fail
  refine (HH.out b2 _ _ _ k4 ha2).mono ?_
  rintro e w8 ⟨rfl, hb8⟩
  go_wp2
  go_ret
  exact ⟨rfl, RB.trans _ _ _ hB hb8⟩

theorem vars_shape1 {H : Type} {enc : TypeId × Value → H} {P : Program} {w : World} {sp : Nat → Bool} {a : String} {gs : List (DataW H)} {q : List MemPlace} (h : DataW.TrodVars enc P w sp [a] gs q) : ∃ g0, gs = [g0] := by
  match gs, h with
  | [], h => exact h.elim
  | [g0], _ => exact ⟨g0, rfl⟩
  | _ :: _ :: _, h =>
    obtain ⟨_, _, _, _, _, _, _, _, _, _, hs, _⟩ := h
    exact hs.elim
theorem star : "*" ++ "errors.errorString" = "*errors.errorString" := by decide
theorem rowErr (u : TypeId) (h : Tryd.prog.typeName? 3 u = some "*errors.errorString") : u = 180 :=
  typeName_ptr_named (nm := "errors.errorString") (by rw [star]; kernel_rfl) (by kernel_rfl) (by decide) u (by rw [star]; exact h)

set_option maxRecDepth 100000 in
theorem lawNewC_lifted (os : Os) (started : os.Started) (H : Type) (enc : TypeId × Value → H) :
    ReturnsInHanded {} Tryd.checked os 3 .any (fun w args => (Rows.fnExactNewClusterSpec.pre enc Tryd.prog Tryd.f3 [] false w args ∧ laidMetH Tryd.prog Rows.fnExactNewClusterRow.laid w) ∧ sizedMet enc Tryd.prog Tryd.f3 (OpenSpec.ofChange Rows.fnExactNewClusterSpec) false w args)
      (Rows.fnExactNewClusterSpec.post enc Tryd.prog Tryd.f3 false true false false) := by
  refine returnsInHanded_of_change_and (C := Tryd.checked) (X := fun w _ => laidMetH Tryd.prog Rows.fnExactNewClusterRow.laid w) (fun _ _ _ hh h => h.of_heap hh) Tryd.own started (by kernel_rfl) Tryd.func3
    (ChangeSpec.witness_shaped (enc := enc) (C := Tryd.checked) (os := os) (X := fun w _ => laidMetH Tryd.prog Rows.fnExactNewClusterRow.laid w) false (World.laidAll Tryd.prog os Rows.fnExactNewClusterRow.laid) #[.int .i64 0] 8 (World.laidAll_os _ _ _)
      (World.shaped_of_ZipB (by kernel_rfl) (by kernel_rfl)) (by kernel_rfl) (by kernel_rfl) (by kernel_rfl)
      (by rw [MakeChecks.laidMetH_plain _ _ _ (by kernel_rfl)]; exact laidMet_laidAll _ (by kernel_rfl) (by kernel_rfl))) ?_
  intro W base args ds gs before hval0 hW _ _ hL0 _
  have hval : ∀ (j : Nat) t v, Tryd.f3.params[j]? = some t → args[j]? = some v → Value.okWide Tryd.prog W .any base t v := hval0
  have hL := hL0
  rw [MakeChecks.laidMetH_plain _ _ _ (by kernel_rfl)] at hL
  obtain ⟨aL, saL, haL, _⟩ := laid_sentinel hL (show Tryd.prog.globalNamed "loop.example/g00161/impl.errNoLog" = some 0 by kernel_rfl) (show (Tryd.prog.globals[0]?).map (·.type) = some 149 by kernel_rfl) Tryd.underlying149 rowErr (tp := 180) (te := 207) (ts := 9) Tryd.underlying180 Tryd.underlying207 rfl rfl Tryd.underlying9 (by kernel_rfl) (by kernel_rfl)
  have caL : W.cell? ⟨0, 0, none⟩ = some (.iface 180 (.pointer (some aL))) := by simpa using World.var?_cell (show Tryd.prog.globalNamed "loop.example/g00161/impl.errNoLog" = some 0 by kernel_rfl) haL 0
  have hW' := hW
  obtain ⟨p, q, hA0, hV0, rfl, hfz, hnd⟩ := hW
  have hA : DataW.TrodAll enc Tryd.prog W 0 (fun _ => true) true Tryd.f3.params.toList args.toList ds p := hA0
  have hV : DataW.TrodVars enc Tryd.prog W (fun _ => true) ["loop.example/g00161/impl.errNoLog"] gs q := hV0
  rw [Tryd.params3] at hA hval
  obtain ⟨v0, vs0, d0, ds0, p0, q0, hargs, rfl, rfl, h0, r0⟩ := trodAll_cons hA
  obtain ⟨rfl, rfl, rfl⟩ := trodAll_nil r0
  obtain rfl : args = #[v0] := by cases args; simp_all
  have hVk := hV
  obtain ⟨g0, rfl⟩ : ∃ g0, gs = [g0] := vars_shape1 hV
  obtain ⟨a0, rfl, rfl, rfl, wa0⟩ := open_int Tryd.underlying2 (hval 0 2 v0 rfl rfl) h0
  clear hA0 hV0 hval0
  refine (lawNewC_walk a0 aL W caL).mono fun e W' ⟨he, bel⟩ => ?_
  subst he
  exact ⟨_, rfl, _, _, _, [], _, _, hW', trodAll_mk1 (shut_bool Tryd.underlying4 _), (trodAll_cons_mk (shut_int Tryd.underlying2 wa0) trodAll_mk0), Below.trodVars Tryd.laidOut bel (by kernel_rfl) hVk, bel.frame _, fun h => by cases h⟩

theorem fnExactNewCluster_row : Rows.FnExactNewClusterSaid :=
  OpenClaim.holds_of_wide 3 Tryd.f3 rfl rfl rfl rfl rfl rfl rfl ⟨rfl, rfl, rfl, rfl, rfl⟩ rfl rfl rfl rfl rfl (by kernel_rfl) Tryd.func3 (by kernel_rfl)
    (of_decide_eq_true (by kernel_rfl)) (by unfold Func.isWrapper; first | (rw [if_pos (by decide +kernel)]; kernel_rfl) | (rw [if_neg (by decide +kernel)]; exact ⟨rfl, rfl⟩))
    (fun os started H enc _ => lawNewC_lifted os started H enc)

theorem fnExactNewCluster_holds : Rows.FnExactNewClusterCardSaid :=
  Claim7.holds_tied_plain_at .later [] [.sentinel] true Rows.fnExactNewClusterCard.stood.harness true
    fnExactNewCluster_row (fun _ h => by cases h) (by kernel_rfl) (fun _ h => by cases h) fnExactNewCluster_row_tie rfl ⟨rfl, rfl⟩ (by kernel_rfl) rfl
    (fun f fn hf hfn => by
      obtain rfl : f = 3 := Option.some.inj ((show Tryd.prog.funcNamed Rows.fnExactNewClusterRow.func = some 3 by kernel_rfl).symm.trans hf) |>.symm
      obtain rfl : fn = Tryd.f3 := (Option.some.inj (Tryd.func3.symm.trans hfn)).symm
      exact ⟨by kernel_rfl, fun j t ht => by
        rw [Tryd.params3] at ht
        have hm : t ∈ [2] := by simpa using Array.mem_of_getElem? ht
        have hall : ([2].all fun u => !Tryd.prog.wantsStandIn u) = true := by kernel_rfl
        exact (show Tryd.prog.wantsStandIn t = false by simpa using List.all_eq_true.1 hall t hm)⟩)
    (by kernel_rfl)
#print axioms fnExactNewCluster_holds

end Go.Proofs.YticckgmkhgnmfaaDoor
