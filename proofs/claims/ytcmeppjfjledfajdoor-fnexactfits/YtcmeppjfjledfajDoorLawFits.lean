/-
  Proved: at every list of entries and all numbers the law FnExactFits answers true, and its arguments and the variables that it names read behind the call as they read before; what these variables read as is tied to the program's text. No condition.
-/
import Derived.Test.YtcmeppjfjledfajDoorFit
import Derived.Test.YtcmeppjfjledfajDoorEntLaw
import Derived.Test.YtcmeppjfjledfajDoorTie
import Derived.Test.YtcmeppjfjledfajDoorCards
import Derived.ProofKit
import Derived.LaidMore
import Derived.OpenShut
import Derived.OpenVars
import Derived.ChangeVars
import Derived.Stop.Joined
import Derived.Stop.LaidErr
import Derived.ChangeMaps5
import Derived.Shelf.Vars
import Derived.Handed
import Derived.Lay
import Derived.SevenTiedAt
set_option linter.unusedVariables false
set_option linter.unusedSimpArgs false
namespace Go.Proofs.YtcmeppjfjledfajDoor
open Go.ChangeShapes Go.WideShapes Go.ChangeAt Go.RowKit Go.Deep Go.Joins
attribute [local go_sem ↓] Go.wp_at_zero Go.wp_at_succ

theorem vars_shape1 {H : Type} {enc : TypeId × Value → H} {P : Program} {w : World} {sp : Nat → Bool} {a : String} {gs : List (DataW H)} {q : List MemPlace} (h : DataW.TrodVars enc P w sp [a] gs q) : ∃ g0, gs = [g0] := by
  match gs, h with
  | [], h => exact h.elim
  | [g0], _ => exact ⟨g0, rfl⟩
  | _ :: _ :: _, h =>
    obtain ⟨_, _, _, _, _, _, _, _, _, _, hs, _⟩ := h
    exact hs.elim
theorem vars_shape3 {H : Type} {enc : TypeId × Value → H} {P : Program} {w : World} {sp : Nat → Bool} {a b c : String} {gs : List (DataW H)} {q : List MemPlace} (h : DataW.TrodVars enc P w sp [a, b, c] gs q) : ∃ g0 g1 g2, gs = [g0, g1, g2] := by
  match gs, h with
  | [], h => exact h.elim
  | g0 :: gs, h =>
    obtain ⟨_, _, _, _, _, _, _, _, _, _, hs, _⟩ := h
    match gs, hs with
    | [], hs => exact hs.elim
    | g1 :: gs, hs =>
      obtain ⟨_, _, _, _, _, _, _, _, _, _, ht, _⟩ := hs
      obtain ⟨g2, rfl⟩ := vars_shape1 ht
      exact ⟨g0, g1, g2, rfl⟩

set_option maxHeartbeats 4000000 in
theorem lawFits_walk (ao : Option Addr) (n cap : Nat) (T : Nat → Int) (X : Nat → ByteArray) (i : Int) (t : Int) (aL aO aE : Addr) (hn : n ≤ maxLen) (hX : ∀ k, k < n → (X k).size ≤ maxLen) (w : World) (hr : NRow w ao n T X) (haL : w.cell? ⟨0, 0, none⟩ = some (.iface 147 (.pointer (some aL)))) (haO : w.cell? ⟨1, 0, none⟩ = some (.iface 147 (.pointer (some aO)))) (haE : w.cell? ⟨2, 0, none⟩ = some (.iface 147 (.pointer (some aE)))) :
    Calls Tryd.prog 5 #[.slice ao n cap, .int .i64 i, .int .i64 t] w fun e w' => e = .returned (.bool true) ∧ Below w.heap.size w w' := by
  unfold maxLen at hn hX
  go_enter Tryd.func5, Tryd.ntmps5
  go_wp2_with fail
  refine (szEntryS_any ao n cap T X 1048576 (by omega) (by omega) (by omega) (fun k hk => by have := hX k hk; omega) _ hr).mono ?_
  rintro e w0 ⟨r, rfl, hr1, hr2, hr3, hb0⟩
  by_cases hneg : r < 0
  · go_wp2
    go_ret
    exact ⟨rfl, hb0⟩
  obtain ⟨hnl, _, hX0⟩ := hr1 (by omega)
  have hX1 : ∀ k, k < n → (X k).size ≤ 1048576 := fun k hk => by have := hX0 k hk; omega
  have hn' : n ≤ 1048576 := by omega
  clear hX hr1 hX0
  have hrow0 := hr.below hb0 (Nat.le_refl _)
  go_wp2_with fail
  refine (toEntryS_any ao n cap T X hn' _ hrow0).mono ?_
  rintro e w1 ⟨rfl, hown1, hb1⟩
  have hA1 := below_next hb0 (Nat.le_refl _) hb1
  go_wp2_with fail
  refine (specFits_any _ n n T X i t (by omega) hX1 _ (nhas_row hown1)).mono ?_
  rintro e w2 ⟨rfl, hb2⟩
  have hA2 := below_next hA1 (Nat.le_refl _) hb2
  go_wp2_with fail
  refine (toEntryS_any ao n cap T X hn' _ (hr.below hA2 (Nat.le_refl _))).mono ?_
  rintro e w3 ⟨rfl, hX3, hb3⟩
  have hA3 := below_next hA2 (Nat.le_refl _) hb3
  have keep : ∀ {g : Nat} {v : Value}, w.cell? ⟨g, 0, none⟩ = some v → w3.cell? ⟨g, 0, none⟩ = some v := fun h => by rw [hA3.cell (lt_of_cell h)]; exact h
  go_wp2_with fail
  refine (implFits_any _ n n T X i t aL aO aE (by omega) hX1 (Nat.le_refl _) _ (nhas_row hX3) (keep haL) (keep haO) (keep haE)).mono ?_
  rintro e w4 ⟨rfl, hb4⟩
  have hA4 := below_next hA3 (Nat.le_refl _) hb4
  have hX4 := hX3.below hb4 hX3.lt
  go_wp2_with fail
  refine (toEntryS_any ao n cap T X hn' _ (hr.below hA4 (Nat.le_refl _))).mono ?_
  rintro e w5 ⟨rfl, hY5, hb5⟩
  have hA5 := below_next hA4 (Nat.le_refl _) hb5
  have hX5 := hX4.below hb5 hX4.lt
  go_wp2_with fail
  refine (eqEntryS_same _ _ n n n T X hn' _ (nhas_row hX5) (nhas_row hY5)).mono ?_
  rintro e w6 ⟨rfl, hb6⟩
  have hA6 := below_next hA5 (Nat.le_refl _) hb6
  go_wp2
  go_ret
  exact ⟨rfl, hA6⟩

theorem star : "*" ++ "errors.errorString" = "*errors.errorString" := by decide
theorem rowErr (u : TypeId) (h : Tryd.prog.typeName? 3 u = some "*errors.errorString") : u = 147 :=
  typeName_ptr_named (nm := "errors.errorString") (by rw [star]; kernel_rfl) (by kernel_rfl) (by decide) u (by rw [star]; exact h)

set_option maxRecDepth 100000 in
theorem lawFits_lifted (os : Os) (started : os.Started) (H : Type) (enc : TypeId × Value → H) :
    ReturnsInHanded {} Tryd.checked os 5 .any (fun w args => (Rows.fnExactFitsSpec.pre enc Tryd.prog Tryd.f5 [] false w args ∧ laidMetH Tryd.prog Rows.fnExactFitsRow.laid w) ∧ sizedMet enc Tryd.prog Tryd.f5 (OpenSpec.ofChange Rows.fnExactFitsSpec) false w args)
      (Rows.fnExactFitsSpec.post enc Tryd.prog Tryd.f5 false true false false) := by
  refine returnsInHanded_of_change_and (C := Tryd.checked) (X := fun w _ => laidMetH Tryd.prog Rows.fnExactFitsRow.laid w) (fun _ _ _ hh h => h.of_heap hh) Tryd.own started (by kernel_rfl) Tryd.func5
    (ChangeSpec.witness_shaped (enc := enc) (C := Tryd.checked) (os := os) (X := fun w _ => laidMetH Tryd.prog Rows.fnExactFitsRow.laid w) false (World.laidAll Tryd.prog os Rows.fnExactFitsRow.laid) #[.slice none 0 0, .int .i64 0, .int .i64 0] 8 (World.laidAll_os _ _ _)
      (World.shaped_of_ZipB (by kernel_rfl) (by kernel_rfl)) (by kernel_rfl) (by kernel_rfl) (by kernel_rfl)
      (by rw [MakeChecks.laidMetH_plain _ _ _ (by kernel_rfl)]; exact laidMet_laidAll _ (by kernel_rfl) (by kernel_rfl))) ?_
  intro W base args ds gs before hval0 hW _ _ hL0 _
  have hval : ∀ (j : Nat) t v, Tryd.f5.params[j]? = some t → args[j]? = some v → Value.okWide Tryd.prog W .any base t v := hval0
  have hL := hL0
  rw [MakeChecks.laidMetH_plain _ _ _ (by kernel_rfl)] at hL
  obtain ⟨aL, saL, haL, _⟩ := laid_sentinel hL (show Tryd.prog.globalNamed "loop.example/g00161/impl.errNoLog" = some 0 by kernel_rfl) (show (Tryd.prog.globals[0]?).map (·.type) = some 59 by kernel_rfl) Tryd.underlying59 rowErr (tp := 147) (te := 171) (ts := 9) Tryd.underlying147 Tryd.underlying171 rfl rfl Tryd.underlying9 (by kernel_rfl) (by kernel_rfl)
  have caL : W.cell? ⟨0, 0, none⟩ = some (.iface 147 (.pointer (some aL))) := by simpa using World.var?_cell (show Tryd.prog.globalNamed "loop.example/g00161/impl.errNoLog" = some 0 by kernel_rfl) haL 0
  obtain ⟨aO, saO, haO, _⟩ := laid_sentinel hL.tail.tail (show Tryd.prog.globalNamed "loop.example/g00161/impl.errOtherTerm" = some 1 by kernel_rfl) (show (Tryd.prog.globals[1]?).map (·.type) = some 59 by kernel_rfl) Tryd.underlying59 rowErr (tp := 147) (te := 171) (ts := 9) Tryd.underlying147 Tryd.underlying171 rfl rfl Tryd.underlying9 (by kernel_rfl) (by kernel_rfl)
  have caO : W.cell? ⟨1, 0, none⟩ = some (.iface 147 (.pointer (some aO))) := by simpa using World.var?_cell (show Tryd.prog.globalNamed "loop.example/g00161/impl.errOtherTerm" = some 1 by kernel_rfl) haO 0
  obtain ⟨aE, saE, haE, _⟩ := laid_sentinel hL.tail (show Tryd.prog.globalNamed "loop.example/g00161/impl.errNoEntry" = some 2 by kernel_rfl) (show (Tryd.prog.globals[2]?).map (·.type) = some 59 by kernel_rfl) Tryd.underlying59 rowErr (tp := 147) (te := 171) (ts := 9) Tryd.underlying147 Tryd.underlying171 rfl rfl Tryd.underlying9 (by kernel_rfl) (by kernel_rfl)
  have caE : W.cell? ⟨2, 0, none⟩ = some (.iface 147 (.pointer (some aE))) := by simpa using World.var?_cell (show Tryd.prog.globalNamed "loop.example/g00161/impl.errNoEntry" = some 2 by kernel_rfl) haE 0
  have hW' := hW
  obtain ⟨p, q, hA0, hV0, rfl, hfz, hnd⟩ := hW
  have hA : DataW.TrodAll enc Tryd.prog W 0 (fun _ => true) true Tryd.f5.params.toList args.toList ds p := hA0
  have hV : DataW.TrodVars enc Tryd.prog W (fun _ => true) ["loop.example/g00161/impl.errNoLog", "loop.example/g00161/impl.errOtherTerm", "loop.example/g00161/impl.errNoEntry"] gs q := hV0
  rw [Tryd.params5] at hA hval
  obtain ⟨v0, vs0, d0, ds0, p0, q0, hargs, rfl, rfl, h0, r0⟩ := trodAll_cons hA
  obtain ⟨v1, vs1, d1, ds1, p1, q1, rfl, rfl, rfl, h1, r1⟩ := trodAll_cons r0
  obtain ⟨v2, vs2, d2, ds2, p2, q2, rfl, rfl, rfl, h2, r2⟩ := trodAll_cons r1
  obtain ⟨rfl, rfl, rfl⟩ := trodAll_nil r2
  obtain rfl : args = #[v0, v1, v2] := by cases args; simp_all
  have hVk := hV
  obtain ⟨g0, g1, g2, rfl⟩ : ∃ g0 g1 g2, gs = [g0, g1, g2] := vars_shape3 hV
  have k0 := h0
  have lt0 : ∀ x ∈ p0, x.block < W.heap.size := by obtain ⟨m, hm⟩ := k0; exact DataW.trod_lt m _ _ _ hm
  obtain ⟨b1, l1, c1', rfl⟩ := okWide_slice Tryd.underlying33 (hval 0 33 v0 rfl rfl)
  obtain ⟨f0, hf0⟩ := h0
  obtain ⟨ao2, m2, cap2, T2, X2, e2, hm2, hr2, hw2, hx2⟩ := open_entries hf0
  simp [Value.cells] at e2
  obtain ⟨rfl, rfl, rfl⟩ := e2
  obtain ⟨a1, rfl, rfl, rfl, wa1⟩ := open_int Tryd.underlying2 (hval 1 2 v1 rfl rfl) h1
  obtain ⟨a2, rfl, rfl, rfl, wa2⟩ := open_int Tryd.underlying2 (hval 2 2 v2 rfl rfl) h2
  clear hA0 hV0 hval0
  refine (lawFits_walk b1 l1 c1' T2 X2 a1 a2 aL aO aE hm2 hx2 W hr2 caL caO caE).mono fun e W' ⟨he, bel⟩ => ?_
  subst he
  exact ⟨_, rfl, _, _, _, [], _, _, hW', trodAll_mk1 (shut_bool Tryd.underlying4 _), (trodAll_cons_mk (Below.trod Tryd.laidOut (by kernel_rfl) (of_decide_eq_true (by kernel_rfl)) k0 bel lt0) (trodAll_cons_mk (shut_int Tryd.underlying2 wa1) (trodAll_cons_mk (shut_int Tryd.underlying2 wa2) trodAll_mk0))), Below.trodVars Tryd.laidOut bel (by kernel_rfl) hVk, bel.frame _, fun h => by cases h⟩

theorem fnExactFits_row : Rows.FnExactFitsSaid :=
  OpenClaim.holds_of_wide 5 Tryd.f5 rfl rfl rfl rfl rfl rfl rfl ⟨rfl, rfl, rfl, rfl, rfl⟩ rfl rfl rfl rfl rfl (by kernel_rfl) Tryd.func5 (by kernel_rfl)
    (of_decide_eq_true (by kernel_rfl)) (by unfold Func.isWrapper; first | (rw [if_pos (by decide +kernel)]; kernel_rfl) | (rw [if_neg (by decide +kernel)]; exact ⟨rfl, rfl⟩))
    (fun os started H enc _ => lawFits_lifted os started H enc)

theorem fnExactFits_holds : Rows.FnExactFitsCardSaid :=
  Claim7.holds_tied_plain_at .later [] [.sentinel, .sentinel, .sentinel] true Rows.fnExactFitsCard.stood.harness true
    fnExactFits_row (fun _ h => by cases h) (by kernel_rfl) (fun _ h => by cases h) fnExactFits_row_tie rfl ⟨rfl, rfl⟩ (by kernel_rfl) rfl
    (fun f fn hf hfn => by
      obtain rfl : f = 5 := Option.some.inj ((show Tryd.prog.funcNamed Rows.fnExactFitsRow.func = some 5 by kernel_rfl).symm.trans hf) |>.symm
      obtain rfl : fn = Tryd.f5 := (Option.some.inj (Tryd.func5.symm.trans hfn)).symm
      exact ⟨by kernel_rfl, fun j t ht => by
        rw [Tryd.params5] at ht
        have hm : t ∈ [33, 2, 2] := by simpa using Array.mem_of_getElem? ht
        have hall : ([33, 2, 2].all fun u => !Tryd.prog.wantsStandIn u) = true := by kernel_rfl
        exact (show Tryd.prog.wantsStandIn t = false by simpa using List.all_eq_true.1 hall t hm)⟩)
    (by kernel_rfl)
#print axioms fnExactFits_holds

end Go.Proofs.YtcmeppjfjledfajDoor
