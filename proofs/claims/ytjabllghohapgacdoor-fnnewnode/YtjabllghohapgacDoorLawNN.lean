/-
  Proved: at every list of bytes the law FnNewNode answers true, and its argument and the variable that it names read behind the call as they read before; what this variable reads as is tied to the program's text. No condition.
-/
import Derived.Test.YtjabllghohapgacDoorNewD
import Derived.Test.YtjabllghohapgacDoorTie
import Derived.Test.YtjabllghohapgacDoorCards
import Derived.ProofKit
import Derived.LaidMore
import Derived.OpenShut
import Derived.OpenVars
import Derived.ChangeVars
import Derived.Stop.Joined
import Derived.Stop.LaidErr
import Derived.ChangeMaps5
import Derived.Shelf.Vars
import Derived.Handed
import Derived.Lay
import Derived.SevenTiedAt
set_option linter.unusedVariables false
set_option linter.unusedSimpArgs false
namespace Go.Proofs.YtjabllghohapgacDoor
open Go.ChangeShapes Go.WideShapes Go.ChangeAt Go.RowKit Go.Deep Go.Joins
attribute [local go_sem ↓] Go.wp_at_zero Go.wp_at_succ

theorem vars_shape1 {H : Type} {enc : TypeId × Value → H} {P : Program} {w : World} {sp : Nat → Bool} {a : String} {gs : List (DataW H)} {q : List MemPlace} (h : DataW.TrodVars enc P w sp [a] gs q) : ∃ g0, gs = [g0] := by
  match gs, h with
  | [], h => exact h.elim
  | [g0], _ => exact ⟨g0, rfl⟩
  | _ :: _ :: _, h =>
    obtain ⟨_, _, _, _, _, _, _, _, _, _, hs, _⟩ := h
    exact hs.elim

set_option maxRecDepth 100000 in
set_option maxHeartbeats 8000000 in
theorem lawFnNewNode_walk (ao : Option Addr) (n cap : Nat) (aL : Addr) (hn : n ≤ maxLen) (w : World) (hr : ByRow w w.heap.size ao n) (hV : w.cell? ⟨1, 0, none⟩ = some (.iface 195 (.pointer (some aL)))) :
    Calls Tryd.prog 5 #[.slice ao n cap] w fun e w' => e = .returned (.bool true) ∧ Below w.heap.size w w' := by
  unfold maxLen at hn
  have HBg := fun W => big_any ao n cap (by omega) W
  by_cases hbig : 4096 < n
  · simp only [hbig, decide_true] at HBg
    go_enter Tryd.func5, Tryd.ntmps5
    go_wp2_with fail
    refine (HBg _).mono ?_
    rintro e w0 ⟨rfl, hq⟩
    have hq' := hq.symm
    subst hq'
    clear hq
    go_wp2
    go_ret
    exact ⟨rfl, Below.refl _ _⟩
  simp only [hbig, decide_false] at HBg
  have hn4 : n ≤ 4096 := by omega
  go_enter Tryd.func5, Tryd.ntmps5
  go_wp2_with fail
  refine (HBg _).mono ?_
  rintro e w0 ⟨rfl, hq⟩
  have hq' := hq.symm
  subst hq'
  clear hq
  go_wp2_with fail
  refine (drawNewNode_any ao n cap hn4 _ hr).mono ?_
  rintro e w1 ⟨i, p, rfl, hB1⟩
  have HS := fun W => specNewNode_any i p W
  have HI := fun W h => newNode_any i p aL W h
  have hV1 := keep_cell hB1 (Nat.le_refl _) hV
  cases hB : newB i p
  · rw [hB] at HS HI
    simp only [if_true, Bool.false_eq_true, if_false] at HS HI
    go_wp2_with fail
    refine (HI _ hV1).mono ?_
    rintro e w2 ⟨rfl, hb2⟩
    have hB2 := below_next hB1 (Nat.le_refl _) hb2
    have A := nd10_new w2 (.int .i64 0) (.int .i64 0) (.int .i64 0) (.int .i64 0) (.slice none 0 0) (.int .i64 0) (.int .i64 0) (.slice none 0 0) (.slice none 0 0) (.slice none 0 0) 52
    have hB2' := hB2.alloc hB2.size (.cells #[.int .i64 0, .int .i64 0, .int .i64 0, .int .i64 0, .slice none 0 0, .int .i64 0, .int .i64 0, .slice none 0 0, .slice none 0 0, .slice none 0 0] 52)
    go_wp2_with fail
    generalize (w2.alloc (.cells #[.int .i64 0, .int .i64 0, .int .i64 0, .int .i64 0, .slice none 0 0, .int .i64 0, .int .i64 0, .slice none 0 0, .slice none 0 0, .slice none 0 0] 52)) = W2 at A hB2' ⊢
    refine (HS _).mono ?_
    rintro e w3 ⟨rfl, hb3⟩
    have hB3 := below_next hB2' (Nat.le_refl _) hb3
    replace A := (A.next hb3).alloc (.cells #[.int .i64 0, .int .i64 0, .int .i64 0, .int .i64 0, .slice none 0 0, .int .i64 0, .int .i64 0, .slice none 0 0, .slice none 0 0, .slice none 0 0] 52)
    have C := nd10_new w3 (.int .i64 0) (.int .i64 0) (.int .i64 0) (.int .i64 0) (.slice none 0 0) (.int .i64 0) (.int .i64 0) (.slice none 0 0) (.slice none 0 0) (.slice none 0 0) 52
    have hB3' := hB3.alloc hB3.size (.cells #[.int .i64 0, .int .i64 0, .int .i64 0, .int .i64 0, .slice none 0 0, .int .i64 0, .int .i64 0, .slice none 0 0, .slice none 0 0, .slice none 0 0] 52)
    have a0 := A.cell (j := 0) (by omega)
    have a1 := A.cell (j := 1) (by omega)
    have a2 := A.cell (j := 2) (by omega)
    have a3 := A.cell (j := 3) (by omega)
    have a4 := A.cell (j := 4) (by omega)
    have a5 := A.cell (j := 5) (by omega)
    have a6 := A.cell (j := 6) (by omega)
    have a7 := A.cell (j := 7) (by omega)
    have a8 := A.cell (j := 8) (by omega)
    have a9 := A.cell (j := 9) (by omega)
    simp only [nd10] at a0 a1 a2 a3 a4 a5 a6 a7 a8 a9
    have c0 := C.cell (j := 0) (by omega)
    have c1 := C.cell (j := 1) (by omega)
    have c2 := C.cell (j := 2) (by omega)
    have c3 := C.cell (j := 3) (by omega)
    have c4 := C.cell (j := 4) (by omega)
    have c5 := C.cell (j := 5) (by omega)
    have c6 := C.cell (j := 6) (by omega)
    have c7 := C.cell (j := 7) (by omega)
    have c8 := C.cell (j := 8) (by omega)
    have c9 := C.cell (j := 9) (by omega)
    simp only [nd10] at c0 c1 c2 c3 c4 c5 c6 c7 c8 c9
    go_wp2_with fail
    generalize (w3.alloc (.cells #[.int .i64 0, .int .i64 0, .int .i64 0, .int .i64 0, .slice none 0 0, .int .i64 0, .int .i64 0, .slice none 0 0, .slice none 0 0, .slice none 0 0] 52)) = W3 at A C hB3' a0 a1 a2 a3 a4 a5 a6 a7 a8 a9 c0 c1 c2 c3 c4 c5 c6 c7 c8 c9 ⊢
    refine (likeNode_nil 0 0 0 0 0 0 _).mono ?_
    rintro e w4 ⟨rfl, hb4⟩
    have hB4 := below_next hB3' (Nat.le_refl _) hb4
    replace A := A.next hb4
    clear a0 a1 a2 a3 a4 a5 a6 a7 a8 a9
    clear c0 c1 c2 c3 c4 c5 c6 c7 c8 c9
    have a0 := A.cell (j := 0) (by omega)
    have a1 := A.cell (j := 1) (by omega)
    have a2 := A.cell (j := 2) (by omega)
    have a3 := A.cell (j := 3) (by omega)
    have a4 := A.cell (j := 4) (by omega)
    have a5 := A.cell (j := 5) (by omega)
    have a6 := A.cell (j := 6) (by omega)
    have a7 := A.cell (j := 7) (by omega)
    have a8 := A.cell (j := 8) (by omega)
    have a9 := A.cell (j := 9) (by omega)
    simp only [nd10] at a0 a1 a2 a3 a4 a5 a6 a7 a8 a9
    have hV4 := keep_cell hB4 (Nat.le_refl _) hV
    go_wp2_with fail
    refine (likeNode_nil 0 0 0 0 0 0 _).mono ?_
    rintro e w5 ⟨rfl, hb5⟩
    have hB5 := below_next hB4 (Nat.le_refl _) hb5
    go_wp2
    go_ret
    exact ⟨rfl, hB5⟩
  · rw [hB] at HS HI
    simp only [if_true, Bool.false_eq_true, if_false] at HS HI
    go_wp2_with fail
    refine (HI _ hV1).mono ?_
    rintro e w2 ⟨rfl, hb2⟩
    have hB2 := below_next hB1 (Nat.le_refl _) hb2
    have A := nd10_new w2 (.int .i64 i) (.int .i64 p) (.int .i64 0) (.int .i64 (-1)) (.slice none 0 0) (.int .i64 1) (.int .i64 0) (.slice none 0 0) (.slice none 0 0) (.slice none 0 0) 52
    have hB2' := hB2.alloc hB2.size (.cells #[.int .i64 i, .int .i64 p, .int .i64 0, .int .i64 (-1), .slice none 0 0, .int .i64 1, .int .i64 0, .slice none 0 0, .slice none 0 0, .slice none 0 0] 52)
    go_wp2_with fail
    generalize (w2.alloc (.cells #[.int .i64 i, .int .i64 p, .int .i64 0, .int .i64 (-1), .slice none 0 0, .int .i64 1, .int .i64 0, .slice none 0 0, .slice none 0 0, .slice none 0 0] 52)) = W2 at A hB2' ⊢
    refine (HS _).mono ?_
    rintro e w3 ⟨rfl, hb3⟩
    have hB3 := below_next hB2' (Nat.le_refl _) hb3
    replace A := (A.next hb3).alloc (.cells #[.int .i64 i, .int .i64 p, .int .i64 0, .int .i64 (-1), .slice none 0 0, .int .i64 1, .int .i64 0, .slice none 0 0, .slice none 0 0, .slice none 0 0] 52)
    have C := nd10_new w3 (.int .i64 i) (.int .i64 p) (.int .i64 0) (.int .i64 (-1)) (.slice none 0 0) (.int .i64 1) (.int .i64 0) (.slice none 0 0) (.slice none 0 0) (.slice none 0 0) 52
    have hB3' := hB3.alloc hB3.size (.cells #[.int .i64 i, .int .i64 p, .int .i64 0, .int .i64 (-1), .slice none 0 0, .int .i64 1, .int .i64 0, .slice none 0 0, .slice none 0 0, .slice none 0 0] 52)
    have a0 := A.cell (j := 0) (by omega)
    have a1 := A.cell (j := 1) (by omega)
    have a2 := A.cell (j := 2) (by omega)
    have a3 := A.cell (j := 3) (by omega)
    have a4 := A.cell (j := 4) (by omega)
    have a5 := A.cell (j := 5) (by omega)
    have a6 := A.cell (j := 6) (by omega)
    have a7 := A.cell (j := 7) (by omega)
    have a8 := A.cell (j := 8) (by omega)
    have a9 := A.cell (j := 9) (by omega)
    simp only [nd10] at a0 a1 a2 a3 a4 a5 a6 a7 a8 a9
    have c0 := C.cell (j := 0) (by omega)
    have c1 := C.cell (j := 1) (by omega)
    have c2 := C.cell (j := 2) (by omega)
    have c3 := C.cell (j := 3) (by omega)
    have c4 := C.cell (j := 4) (by omega)
    have c5 := C.cell (j := 5) (by omega)
    have c6 := C.cell (j := 6) (by omega)
    have c7 := C.cell (j := 7) (by omega)
    have c8 := C.cell (j := 8) (by omega)
    have c9 := C.cell (j := 9) (by omega)
    simp only [nd10] at c0 c1 c2 c3 c4 c5 c6 c7 c8 c9
    go_wp2_with fail
    generalize (w3.alloc (.cells #[.int .i64 i, .int .i64 p, .int .i64 0, .int .i64 (-1), .slice none 0 0, .int .i64 1, .int .i64 0, .slice none 0 0, .slice none 0 0, .slice none 0 0] 52)) = W3 at A C hB3' a0 a1 a2 a3 a4 a5 a6 a7 a8 a9 c0 c1 c2 c3 c4 c5 c6 c7 c8 c9 ⊢
    refine (likeNode_nil i p 0 (-1) 1 0 _).mono ?_
    rintro e w4 ⟨rfl, hb4⟩
    have hB4 := below_next hB3' (Nat.le_refl _) hb4
    replace A := A.next hb4
    clear a0 a1 a2 a3 a4 a5 a6 a7 a8 a9
    clear c0 c1 c2 c3 c4 c5 c6 c7 c8 c9
    have a0 := A.cell (j := 0) (by omega)
    have a1 := A.cell (j := 1) (by omega)
    have a2 := A.cell (j := 2) (by omega)
    have a3 := A.cell (j := 3) (by omega)
    have a4 := A.cell (j := 4) (by omega)
    have a5 := A.cell (j := 5) (by omega)
    have a6 := A.cell (j := 6) (by omega)
    have a7 := A.cell (j := 7) (by omega)
    have a8 := A.cell (j := 8) (by omega)
    have a9 := A.cell (j := 9) (by omega)
    simp only [nd10] at a0 a1 a2 a3 a4 a5 a6 a7 a8 a9
    have hV4 := keep_cell hB4 (Nat.le_refl _) hV
    go_wp2_with fail
    refine (nodeOk_nil p i aL _ hV4).mono ?_
    rintro e w5 ⟨rfl, hb5⟩
    have hB5 := below_next hB4 (Nat.le_refl _) hb5
    have hV5 := keep_cell hB5 (Nat.le_refl _) hV
    have hdk : decide (1 ≤ p ∧ p ≤ 5 ∧ 0 ≤ i ∧ i < p) = true := hB
    rw [hdk]
    replace A := A.next hb5
    clear a0 a1 a2 a3 a4 a5 a6 a7 a8 a9
    have a0 := A.cell (j := 0) (by omega)
    have a1 := A.cell (j := 1) (by omega)
    have a2 := A.cell (j := 2) (by omega)
    have a3 := A.cell (j := 3) (by omega)
    have a4 := A.cell (j := 4) (by omega)
    have a5 := A.cell (j := 5) (by omega)
    have a6 := A.cell (j := 6) (by omega)
    have a7 := A.cell (j := 7) (by omega)
    have a8 := A.cell (j := 8) (by omega)
    have a9 := A.cell (j := 9) (by omega)
    simp only [nd10] at a0 a1 a2 a3 a4 a5 a6 a7 a8 a9
    go_wp2_with fail
    refine (beat_nil i p aL _ hV5).mono ?_
    rintro e w6 ⟨rfl, hb6⟩
    have hB6 := below_next hB5 (Nat.le_refl _) hb6
    go_wp2
    go_ret
    exact ⟨rfl, hB6⟩

theorem star : "*" ++ "errors.errorString" = "*errors.errorString" := by decide
theorem rowErr (u : TypeId) (h : Tryd.prog.typeName? 3 u = some "*errors.errorString") : u = 195 :=
  typeName_ptr_named (nm := "errors.errorString") (by rw [star]; kernel_rfl) (by kernel_rfl) (by decide) u (by rw [star]; exact h)

set_option maxRecDepth 100000 in
theorem lawFnNewNode_lifted (os : Os) (started : os.Started) (H : Type) (enc : TypeId × Value → H) :
    ReturnsInHanded {} Tryd.checked os 5 .any (fun w args => (Rows.fnNewNodeSpec.pre enc Tryd.prog Tryd.f5 [] false w args ∧ laidMetH Tryd.prog Rows.fnNewNodeRow.laid w) ∧ sizedMet enc Tryd.prog Tryd.f5 (OpenSpec.ofChange Rows.fnNewNodeSpec) false w args)
      (Rows.fnNewNodeSpec.post enc Tryd.prog Tryd.f5 false true false false) := by
  refine returnsInHanded_of_change_and (C := Tryd.checked) (X := fun w _ => laidMetH Tryd.prog Rows.fnNewNodeRow.laid w) (fun _ _ _ hh h => h.of_heap hh) Tryd.own started (by kernel_rfl) Tryd.func5
    (ChangeSpec.witness_shaped (enc := enc) (C := Tryd.checked) (os := os) (X := fun w _ => laidMetH Tryd.prog Rows.fnNewNodeRow.laid w) false (World.laidAll Tryd.prog os Rows.fnNewNodeRow.laid) #[.slice none 0 0] 8 (World.laidAll_os _ _ _)
      (World.shaped_of_ZipB (by kernel_rfl) (by kernel_rfl)) (by kernel_rfl) (by kernel_rfl) (by kernel_rfl)
      (by rw [MakeChecks.laidMetH_plain _ _ _ (by kernel_rfl)]; exact laidMet_laidAll _ (by kernel_rfl) (by kernel_rfl))) ?_
  intro W base args ds gs before hval0 hW _ _ hL0 _
  have hval : ∀ (j : Nat) t v, Tryd.f5.params[j]? = some t → args[j]? = some v → Value.okWide Tryd.prog W .any base t v := hval0
  have hL := hL0
  rw [MakeChecks.laidMetH_plain _ _ _ (by kernel_rfl)] at hL
  obtain ⟨aL, saL, haL, _⟩ := laid_sentinel hL (show Tryd.prog.globalNamed "loop.example/g00161/impl.errNoLog" = some 1 by kernel_rfl) (show (Tryd.prog.globals[1]?).map (·.type) = some 86 by kernel_rfl) Tryd.underlying86 rowErr (tp := 195) (te := 216) (ts := 9) Tryd.underlying195 Tryd.underlying216 rfl rfl Tryd.underlying9 (by kernel_rfl) (by kernel_rfl)
  have caL : W.cell? ⟨1, 0, none⟩ = some (.iface 195 (.pointer (some aL))) := by simpa using World.var?_cell (show Tryd.prog.globalNamed "loop.example/g00161/impl.errNoLog" = some 1 by kernel_rfl) haL 0
  have hW' := hW
  obtain ⟨p, q, hA0, hV0, rfl, hfz, hnd⟩ := hW
  have hA : DataW.TrodAll enc Tryd.prog W 0 (fun _ => true) true Tryd.f5.params.toList args.toList ds p := hA0
  have hV : DataW.TrodVars enc Tryd.prog W (fun _ => true) ["loop.example/g00161/impl.errNoLog"] gs q := hV0
  rw [Tryd.params5] at hA hval
  obtain ⟨v0, vs0, d0, ds0, p0, q0, hargs, rfl, rfl, h0, r0⟩ := trodAll_cons hA
  obtain ⟨rfl, rfl, rfl⟩ := trodAll_nil r0
  obtain rfl : args = #[v0] := by cases args; simp_all
  have hVk := hV
  obtain ⟨g0, rfl⟩ : ∃ g0, gs = [g0] := vars_shape1 hV
  have k0 := h0
  have lt0 : ∀ x ∈ p0, x.block < W.heap.size := by obtain ⟨m, hm⟩ := k0; exact DataW.trod_lt m _ _ _ hm
  obtain ⟨b1, l1, c1', rfl⟩ := okWide_slice Tryd.underlying22 (hval 0 22 v0 rfl rfl)
  obtain ⟨f0, hf0⟩ := h0
  obtain ⟨ao2, m2, cap2, e2, hm2, hr2⟩ := open_bytes hf0
  simp [Value.cells] at e2
  obtain ⟨rfl, rfl, rfl⟩ := e2
  clear hA0 hV0 hval0
  refine (lawFnNewNode_walk b1 l1 c1' aL hm2 W hr2 caL).mono fun e W' ⟨he, bel⟩ => ?_
  subst he
  exact ⟨_, rfl, _, _, _, [], _, _, hW', trodAll_mk1 (shut_bool Tryd.underlying4 _), (trodAll_cons_mk (Below.trod Tryd.laidOut (by kernel_rfl) (of_decide_eq_true (by kernel_rfl)) k0 bel lt0) trodAll_mk0), Below.trodVars Tryd.laidOut bel (by kernel_rfl) hVk, bel.frame _, fun h => by cases h⟩

theorem fnNewNode_row : Rows.FnNewNodeSaid :=
  OpenClaim.holds_of_wide 5 Tryd.f5 rfl rfl rfl rfl rfl rfl rfl ⟨rfl, rfl, rfl, rfl, rfl⟩ rfl rfl rfl rfl rfl (by kernel_rfl) Tryd.func5 (by kernel_rfl)
    (of_decide_eq_true (by kernel_rfl)) (by unfold Func.isWrapper; first | (rw [if_pos (by decide +kernel)]; kernel_rfl) | (rw [if_neg (by decide +kernel)]; exact ⟨rfl, rfl⟩))
    (fun os started H enc _ => lawFnNewNode_lifted os started H enc)

theorem fnNewNode_holds : Rows.FnNewNodeCardSaid :=
  Claim7.holds_tied_plain_at .later [] [.sentinel] true Rows.fnNewNodeCard.stood.harness true
    fnNewNode_row (fun _ h => by cases h) (by kernel_rfl) (fun _ h => by cases h) fnNewNode_row_tie rfl ⟨rfl, rfl⟩ (by kernel_rfl) rfl
    (fun f fn hf hfn => by
      obtain rfl : f = 5 := Option.some.inj ((show Tryd.prog.funcNamed Rows.fnNewNodeRow.func = some 5 by kernel_rfl).symm.trans hf) |>.symm
      obtain rfl : fn = Tryd.f5 := (Option.some.inj (Tryd.func5.symm.trans hfn)).symm
      exact ⟨by kernel_rfl, fun j t ht => by
        rw [Tryd.params5] at ht
        have hm : t ∈ [22] := by simpa using Array.mem_of_getElem? ht
        have hall : ([22].all fun u => !Tryd.prog.wantsStandIn u) = true := by kernel_rfl
        exact (show Tryd.prog.wantsStandIn t = false by simpa using List.all_eq_true.1 hall t hm)⟩)
    (by kernel_rfl)
#print axioms fnNewNode_holds

end Go.Proofs.YtjabllghohapgacDoor
