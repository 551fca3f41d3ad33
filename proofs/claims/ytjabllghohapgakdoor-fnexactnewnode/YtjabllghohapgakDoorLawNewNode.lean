/-
  Proved: at all pairs of numbers the law FnExactNewNode answers true, and its arguments and the variable that it names read behind the call as they read before; what this variable reads as is tied to the program's text. No condition.
-/
import Derived.Test.YtjabllghohapgakDoorNewE
import Derived.Test.YtjabllghohapgakDoorTie
import Derived.Test.YtjabllghohapgakDoorCards
import Derived.ProofKit
import Derived.LaidMore
import Derived.OpenShut
import Derived.OpenVars
import Derived.ChangeVars
import Derived.Stop.Joined
import Derived.Stop.LaidErr
import Derived.ChangeMaps5
import Derived.Shelf.Vars
import Derived.Handed
import Derived.Lay
import Derived.SevenTiedAt
set_option linter.unusedVariables false
set_option linter.unusedSimpArgs false
namespace Go.Proofs.YtjabllghohapgakDoor
open Go.ChangeShapes Go.WideShapes Go.ChangeAt Go.RowKit Go.Deep Go.Joins
attribute [local go_sem ↓] Go.wp_at_zero Go.wp_at_succ

theorem vars_shape1 {H : Type} {enc : TypeId × Value → H} {P : Program} {w : World} {sp : Nat → Bool} {a : String} {gs : List (DataW H)} {q : List MemPlace} (h : DataW.TrodVars enc P w sp [a] gs q) : ∃ g0, gs = [g0] := by
  match gs, h with
  | [], h => exact h.elim
  | [g0], _ => exact ⟨g0, rfl⟩
  | _ :: _ :: _, h =>
    obtain ⟨_, _, _, _, _, _, _, _, _, _, hs, _⟩ := h
    exact hs.elim

theorem node_of (i p : Int) : ∃ x0 x1 x2 x3 x4 x5 : Int, (if newB i p = true then .agg #[.int .i64 i, .int .i64 p, .int .i64 0, .int .i64 (-1), .slice none 0 0, .int .i64 1, .int .i64 0, .slice none 0 0, .slice none 0 0, .slice none 0 0] else .agg #[.int .i64 0, .int .i64 0, .int .i64 0, .int .i64 0, .slice none 0 0, .int .i64 0, .int .i64 0, .slice none 0 0, .slice none 0 0, .slice none 0 0] : Value) = .agg #[.int .i64 x0, .int .i64 x1, .int .i64 x2, .int .i64 x3, .slice none 0 0, .int .i64 x4, .int .i64 x5, .slice none 0 0, .slice none 0 0, .slice none 0 0] := by
  by_cases h : newB i p = true
  · exact ⟨i, p, 0, -1, 1, 0, by rw [if_pos h]⟩
  · exact ⟨0, 0, 0, 0, 0, 0, by rw [if_neg h]⟩
set_option maxHeartbeats 4000000 in
theorem lawNewNode_walk (i p : Int) (aL : Addr) (w : World) (hV : w.cell? ⟨1, 0, none⟩ = some (.iface 153 (.pointer (some aL)))) :
    Calls Tryd.prog 5 #[.int .i64 i, .int .i64 p] w fun e w' => e = .returned (.bool true) ∧ Below w.heap.size w w' := by
  have HS := fun W => specNewNode_any i p W
  have HI := fun W h => newNode_any i p aL W h
  obtain ⟨x0, x1, x2, x3, x4, x5, hx⟩ := node_of i p
  rw [hx] at HS HI
  generalize newB i p = B at HS HI
  clear hx
  go_enter Tryd.func5, Tryd.ntmps5
  go_wp2_with fail
  refine (HS _).mono ?_
  rintro e w1 ⟨rfl, hb1⟩
  have A1 := nd10_new w1 (.int .i64 x0) (.int .i64 x1) (.int .i64 x2) (.int .i64 x3) (.slice none 0 0) (.int .i64 x4) (.int .i64 x5) (.slice none 0 0) (.slice none 0 0) (.slice none 0 0) 37
  have hB1 : Below w.heap.size w (w1.alloc (.cells #[.int .i64 x0, .int .i64 x1, .int .i64 x2, .int .i64 x3, .slice none 0 0, .int .i64 x4, .int .i64 x5, .slice none 0 0, .slice none 0 0, .slice none 0 0] 37)) := hb1.alloc hb1.size _
  go_wp2_with fail
  have hV1 := keep_cell hB1 (Nat.le_refl _) hV
  generalize (w1.alloc (.cells #[.int .i64 x0, .int .i64 x1, .int .i64 x2, .int .i64 x3, .slice none 0 0, .int .i64 x4, .int .i64 x5, .slice none 0 0, .slice none 0 0, .slice none 0 0] 37)) = W1 at A1 hB1 hV1 ⊢
  refine (HI _ hV1).mono ?_
  rintro e w2 ⟨rfl, hb2⟩
  have A := (A1.next hb2).alloc (.cells #[.int .i64 x0, .int .i64 x1, .int .i64 x2, .int .i64 x3, .slice none 0 0, .int .i64 x4, .int .i64 x5, .slice none 0 0, .slice none 0 0, .slice none 0 0] 37)
  have B := nd10_new w2 (.int .i64 x0) (.int .i64 x1) (.int .i64 x2) (.int .i64 x3) (.slice none 0 0) (.int .i64 x4) (.int .i64 x5) (.slice none 0 0) (.slice none 0 0) (.slice none 0 0) 37
  have hB2 : Below w.heap.size w (w2.alloc (.cells #[.int .i64 x0, .int .i64 x1, .int .i64 x2, .int .i64 x3, .slice none 0 0, .int .i64 x4, .int .i64 x5, .slice none 0 0, .slice none 0 0, .slice none 0 0] 37)) := (below_next hB1 (Nat.le_refl _) hb2).alloc (below_next hB1 (Nat.le_refl _) hb2).size _
  have a0 := A.cell (j := 0) (by omega)
  have a1 := A.cell (j := 1) (by omega)
  have a2 := A.cell (j := 2) (by omega)
  have a3 := A.cell (j := 3) (by omega)
  have a4 := A.cell (j := 4) (by omega)
  have a5 := A.cell (j := 5) (by omega)
  have a6 := A.cell (j := 6) (by omega)
  have a7 := A.cell (j := 7) (by omega)
  have a8 := A.cell (j := 8) (by omega)
  have a9 := A.cell (j := 9) (by omega)
  simp only [nd10] at a0 a1 a2 a3 a4 a5 a6 a7 a8 a9
  have b0 := B.cell (j := 0) (by omega)
  have b1 := B.cell (j := 1) (by omega)
  have b2 := B.cell (j := 2) (by omega)
  have b3 := B.cell (j := 3) (by omega)
  have b4 := B.cell (j := 4) (by omega)
  have b5 := B.cell (j := 5) (by omega)
  have b6 := B.cell (j := 6) (by omega)
  have b7 := B.cell (j := 7) (by omega)
  have b8 := B.cell (j := 8) (by omega)
  have b9 := B.cell (j := 9) (by omega)
  simp only [nd10] at b0 b1 b2 b3 b4 b5 b6 b7 b8 b9
  have b0 := B.cell (j := 0) (by omega)
  have b1 := B.cell (j := 1) (by omega)
  have b2 := B.cell (j := 2) (by omega)
  have b3 := B.cell (j := 3) (by omega)
  have b4 := B.cell (j := 4) (by omega)
  have b5 := B.cell (j := 5) (by omega)
  have b6 := B.cell (j := 6) (by omega)
  have b7 := B.cell (j := 7) (by omega)
  have b8 := B.cell (j := 8) (by omega)
  have b9 := B.cell (j := 9) (by omega)
  simp only [nd10] at b0 b1 b2 b3 b4 b5 b6 b7 b8 b9
  go_wp2_with fail
  generalize (w2.alloc (.cells #[.int .i64 x0, .int .i64 x1, .int .i64 x2, .int .i64 x3, .slice none 0 0, .int .i64 x4, .int .i64 x5, .slice none 0 0, .slice none 0 0, .slice none 0 0] 37)) = W2 at A B hB2 a0 a1 a2 a3 a4 a5 a6 a7 a8 a9 b0 b1 b2 b3 b4 b5 b6 b7 b8 b9 ⊢
  refine (eqNode_nil x0 x1 x2 x3 x4 x5 _).mono ?_
  rintro e w3 ⟨rfl, hb3⟩
  have hB3 := below_next hB2 (Nat.le_refl _) hb3
  replace A := A.next hb3
  clear a0 a1 a2 a3 a4 a5 a6 a7 a8 a9
  have a0 := A.cell (j := 0) (by omega)
  have a1 := A.cell (j := 1) (by omega)
  have a2 := A.cell (j := 2) (by omega)
  have a3 := A.cell (j := 3) (by omega)
  have a4 := A.cell (j := 4) (by omega)
  have a5 := A.cell (j := 5) (by omega)
  have a6 := A.cell (j := 6) (by omega)
  have a7 := A.cell (j := 7) (by omega)
  have a8 := A.cell (j := 8) (by omega)
  have a9 := A.cell (j := 9) (by omega)
  simp only [nd10] at a0 a1 a2 a3 a4 a5 a6 a7 a8 a9
  replace B := B.next hb3
  clear b0 b1 b2 b3 b4 b5 b6 b7 b8 b9
  have b0 := B.cell (j := 0) (by omega)
  have b1 := B.cell (j := 1) (by omega)
  have b2 := B.cell (j := 2) (by omega)
  have b3 := B.cell (j := 3) (by omega)
  have b4 := B.cell (j := 4) (by omega)
  have b5 := B.cell (j := 5) (by omega)
  have b6 := B.cell (j := 6) (by omega)
  have b7 := B.cell (j := 7) (by omega)
  have b8 := B.cell (j := 8) (by omega)
  have b9 := B.cell (j := 9) (by omega)
  simp only [nd10] at b0 b1 b2 b3 b4 b5 b6 b7 b8 b9
  go_wp2_with fail
  refine (markNode_nil x0 x1 x2 x3 x4 x5 1 (by omega) _).mono ?_
  rintro e w4 ⟨rfl, hb4⟩
  have hB4 := below_next hB3 (Nat.le_refl _) hb4
  replace A := A.next hb4
  clear a0 a1 a2 a3 a4 a5 a6 a7 a8 a9
  have a0 := A.cell (j := 0) (by omega)
  have a1 := A.cell (j := 1) (by omega)
  have a2 := A.cell (j := 2) (by omega)
  have a3 := A.cell (j := 3) (by omega)
  have a4 := A.cell (j := 4) (by omega)
  have a5 := A.cell (j := 5) (by omega)
  have a6 := A.cell (j := 6) (by omega)
  have a7 := A.cell (j := 7) (by omega)
  have a8 := A.cell (j := 8) (by omega)
  have a9 := A.cell (j := 9) (by omega)
  simp only [nd10] at a0 a1 a2 a3 a4 a5 a6 a7 a8 a9
  replace B := B.next hb4
  clear b0 b1 b2 b3 b4 b5 b6 b7 b8 b9
  have b0 := B.cell (j := 0) (by omega)
  have b1 := B.cell (j := 1) (by omega)
  have b2 := B.cell (j := 2) (by omega)
  have b3 := B.cell (j := 3) (by omega)
  have b4 := B.cell (j := 4) (by omega)
  have b5 := B.cell (j := 5) (by omega)
  have b6 := B.cell (j := 6) (by omega)
  have b7 := B.cell (j := 7) (by omega)
  have b8 := B.cell (j := 8) (by omega)
  have b9 := B.cell (j := 9) (by omega)
  simp only [nd10] at b0 b1 b2 b3 b4 b5 b6 b7 b8 b9
  go_wp2_with fail
  refine (heldNode_nil x0 x1 x2 x3 x4 x5 1 (by omega) _).mono ?_
  rintro e w5 ⟨rfl, hb5⟩
  have hB5 := below_next hB4 (Nat.le_refl _) hb5
  replace A := A.next hb5
  clear a0 a1 a2 a3 a4 a5 a6 a7 a8 a9
  have a0 := A.cell (j := 0) (by omega)
  have a1 := A.cell (j := 1) (by omega)
  have a2 := A.cell (j := 2) (by omega)
  have a3 := A.cell (j := 3) (by omega)
  have a4 := A.cell (j := 4) (by omega)
  have a5 := A.cell (j := 5) (by omega)
  have a6 := A.cell (j := 6) (by omega)
  have a7 := A.cell (j := 7) (by omega)
  have a8 := A.cell (j := 8) (by omega)
  have a9 := A.cell (j := 9) (by omega)
  simp only [nd10] at a0 a1 a2 a3 a4 a5 a6 a7 a8 a9
  replace B := B.next hb5
  clear b0 b1 b2 b3 b4 b5 b6 b7 b8 b9
  have b0 := B.cell (j := 0) (by omega)
  have b1 := B.cell (j := 1) (by omega)
  have b2 := B.cell (j := 2) (by omega)
  have b3 := B.cell (j := 3) (by omega)
  have b4 := B.cell (j := 4) (by omega)
  have b5 := B.cell (j := 5) (by omega)
  have b6 := B.cell (j := 6) (by omega)
  have b7 := B.cell (j := 7) (by omega)
  have b8 := B.cell (j := 8) (by omega)
  have b9 := B.cell (j := 9) (by omega)
  simp only [nd10] at b0 b1 b2 b3 b4 b5 b6 b7 b8 b9
  have hV5 := keep_cell hB5 (Nat.le_refl _) hV
  go_wp2_with fail
  refine (HI _ hV5).mono ?_
  rintro e w6 ⟨rfl, hb6⟩
  have hB6 := below_next hB5 (Nat.le_refl _) hb6
  replace A := (A.next hb6).alloc (.cells #[.int .i64 x0, .int .i64 x1, .int .i64 x2, .int .i64 x3, .slice none 0 0, .int .i64 x4, .int .i64 x5, .slice none 0 0, .slice none 0 0, .slice none 0 0] 37)
  replace B := (B.next hb6).alloc (.cells #[.int .i64 x0, .int .i64 x1, .int .i64 x2, .int .i64 x3, .slice none 0 0, .int .i64 x4, .int .i64 x5, .slice none 0 0, .slice none 0 0, .slice none 0 0] 37)
  have C := nd10_new w6 (.int .i64 x0) (.int .i64 x1) (.int .i64 x2) (.int .i64 x3) (.slice none 0 0) (.int .i64 x4) (.int .i64 x5) (.slice none 0 0) (.slice none 0 0) (.slice none 0 0) 37
  have hB6' := hB6.alloc hB6.size (.cells #[.int .i64 x0, .int .i64 x1, .int .i64 x2, .int .i64 x3, .slice none 0 0, .int .i64 x4, .int .i64 x5, .slice none 0 0, .slice none 0 0, .slice none 0 0] 37)
  clear a0 a1 a2 a3 a4 a5 a6 a7 a8 a9
  have a0 := A.cell (j := 0) (by omega)
  have a1 := A.cell (j := 1) (by omega)
  have a2 := A.cell (j := 2) (by omega)
  have a3 := A.cell (j := 3) (by omega)
  have a4 := A.cell (j := 4) (by omega)
  have a5 := A.cell (j := 5) (by omega)
  have a6 := A.cell (j := 6) (by omega)
  have a7 := A.cell (j := 7) (by omega)
  have a8 := A.cell (j := 8) (by omega)
  have a9 := A.cell (j := 9) (by omega)
  simp only [nd10] at a0 a1 a2 a3 a4 a5 a6 a7 a8 a9
  clear b0 b1 b2 b3 b4 b5 b6 b7 b8 b9
  have b0 := B.cell (j := 0) (by omega)
  have b1 := B.cell (j := 1) (by omega)
  have b2 := B.cell (j := 2) (by omega)
  have b3 := B.cell (j := 3) (by omega)
  have b4 := B.cell (j := 4) (by omega)
  have b5 := B.cell (j := 5) (by omega)
  have b6 := B.cell (j := 6) (by omega)
  have b7 := B.cell (j := 7) (by omega)
  have b8 := B.cell (j := 8) (by omega)
  have b9 := B.cell (j := 9) (by omega)
  simp only [nd10] at b0 b1 b2 b3 b4 b5 b6 b7 b8 b9
  have c0 := C.cell (j := 0) (by omega)
  have c1 := C.cell (j := 1) (by omega)
  have c2 := C.cell (j := 2) (by omega)
  have c3 := C.cell (j := 3) (by omega)
  have c4 := C.cell (j := 4) (by omega)
  have c5 := C.cell (j := 5) (by omega)
  have c6 := C.cell (j := 6) (by omega)
  have c7 := C.cell (j := 7) (by omega)
  have c8 := C.cell (j := 8) (by omega)
  have c9 := C.cell (j := 9) (by omega)
  simp only [nd10] at c0 c1 c2 c3 c4 c5 c6 c7 c8 c9
  go_wp2_with fail
  refine (eqNode_nil x0 x1 x2 x3 x4 x5 _).mono ?_
  rintro e w7 ⟨rfl, hb7⟩
  have hB7 := below_next hB6' (Nat.le_refl _) hb7
  replace B := B.next hb7
  clear b0 b1 b2 b3 b4 b5 b6 b7 b8 b9
  have b0 := B.cell (j := 0) (by omega)
  have b1 := B.cell (j := 1) (by omega)
  have b2 := B.cell (j := 2) (by omega)
  have b3 := B.cell (j := 3) (by omega)
  have b4 := B.cell (j := 4) (by omega)
  have b5 := B.cell (j := 5) (by omega)
  have b6 := B.cell (j := 6) (by omega)
  have b7 := B.cell (j := 7) (by omega)
  have b8 := B.cell (j := 8) (by omega)
  have b9 := B.cell (j := 9) (by omega)
  simp only [nd10] at b0 b1 b2 b3 b4 b5 b6 b7 b8 b9
  go_wp2_with fail
  refine (heldNode_nil x0 x1 x2 x3 x4 x5 1 (by omega) _).mono ?_
  rintro e w8 ⟨rfl, hb8⟩
  have hB8 := below_next hB7 (Nat.le_refl _) hb8
  go_wp2
  go_ret
  exact ⟨rfl, hB8⟩

theorem star : "*" ++ "errors.errorString" = "*errors.errorString" := by decide
theorem rowErr (u : TypeId) (h : Tryd.prog.typeName? 3 u = some "*errors.errorString") : u = 153 :=
  typeName_ptr_named (nm := "errors.errorString") (by rw [star]; kernel_rfl) (by kernel_rfl) (by decide) u (by rw [star]; exact h)

set_option maxRecDepth 100000 in
theorem lawNewNode_lifted (os : Os) (started : os.Started) (H : Type) (enc : TypeId × Value → H) :
    ReturnsInHanded {} Tryd.checked os 5 .any (fun w args => (Rows.fnExactNewNodeSpec.pre enc Tryd.prog Tryd.f5 [] false w args ∧ laidMetH Tryd.prog Rows.fnExactNewNodeRow.laid w) ∧ sizedMet enc Tryd.prog Tryd.f5 (OpenSpec.ofChange Rows.fnExactNewNodeSpec) false w args)
      (Rows.fnExactNewNodeSpec.post enc Tryd.prog Tryd.f5 false true false false) := by
  refine returnsInHanded_of_change_and (C := Tryd.checked) (X := fun w _ => laidMetH Tryd.prog Rows.fnExactNewNodeRow.laid w) (fun _ _ _ hh h => h.of_heap hh) Tryd.own started (by kernel_rfl) Tryd.func5
    (ChangeSpec.witness_shaped (enc := enc) (C := Tryd.checked) (os := os) (X := fun w _ => laidMetH Tryd.prog Rows.fnExactNewNodeRow.laid w) false (World.laidAll Tryd.prog os Rows.fnExactNewNodeRow.laid) #[.int .i64 0, .int .i64 0] 8 (World.laidAll_os _ _ _)
      (World.shaped_of_ZipB (by kernel_rfl) (by kernel_rfl)) (by kernel_rfl) (by kernel_rfl) (by kernel_rfl)
      (by rw [MakeChecks.laidMetH_plain _ _ _ (by kernel_rfl)]; exact laidMet_laidAll _ (by kernel_rfl) (by kernel_rfl))) ?_
  intro W base args ds gs before hval0 hW _ _ hL0 _
  have hval : ∀ (j : Nat) t v, Tryd.f5.params[j]? = some t → args[j]? = some v → Value.okWide Tryd.prog W .any base t v := hval0
  have hL := hL0
  rw [MakeChecks.laidMetH_plain _ _ _ (by kernel_rfl)] at hL
  obtain ⟨aL, saL, haL, _⟩ := laid_sentinel hL (show Tryd.prog.globalNamed "loop.example/g00161/impl.errNoLog" = some 1 by kernel_rfl) (show (Tryd.prog.globals[1]?).map (·.type) = some 57 by kernel_rfl) Tryd.underlying57 rowErr (tp := 153) (te := 177) (ts := 9) Tryd.underlying153 Tryd.underlying177 rfl rfl Tryd.underlying9 (by kernel_rfl) (by kernel_rfl)
  have caL : W.cell? ⟨1, 0, none⟩ = some (.iface 153 (.pointer (some aL))) := by simpa using World.var?_cell (show Tryd.prog.globalNamed "loop.example/g00161/impl.errNoLog" = some 1 by kernel_rfl) haL 0
  have hW' := hW
  obtain ⟨p, q, hA0, hV0, rfl, hfz, hnd⟩ := hW
  have hA : DataW.TrodAll enc Tryd.prog W 0 (fun _ => true) true Tryd.f5.params.toList args.toList ds p := hA0
  have hV : DataW.TrodVars enc Tryd.prog W (fun _ => true) ["loop.example/g00161/impl.errNoLog"] gs q := hV0
  rw [Tryd.params5] at hA hval
  obtain ⟨v0, vs0, d0, ds0, p0, q0, hargs, rfl, rfl, h0, r0⟩ := trodAll_cons hA
  obtain ⟨v1, vs1, d1, ds1, p1, q1, rfl, rfl, rfl, h1, r1⟩ := trodAll_cons r0
  obtain ⟨rfl, rfl, rfl⟩ := trodAll_nil r1
  obtain rfl : args = #[v0, v1] := by cases args; simp_all
  have hVk := hV
  obtain ⟨g0, rfl⟩ : ∃ g0, gs = [g0] := vars_shape1 hV
  obtain ⟨a0, rfl, rfl, rfl, wa0⟩ := open_int Tryd.underlying2 (hval 0 2 v0 rfl rfl) h0
  obtain ⟨a1, rfl, rfl, rfl, wa1⟩ := open_int Tryd.underlying2 (hval 1 2 v1 rfl rfl) h1
  clear hA0 hV0 hval0
  refine (lawNewNode_walk a0 a1 aL W caL).mono fun e W' ⟨he, bel⟩ => ?_
  subst he
  exact ⟨_, rfl, _, _, _, [], _, _, hW', trodAll_mk1 (shut_bool Tryd.underlying4 _), (trodAll_cons_mk (shut_int Tryd.underlying2 wa0) (trodAll_cons_mk (shut_int Tryd.underlying2 wa1) trodAll_mk0)), Below.trodVars Tryd.laidOut bel (by kernel_rfl) hVk, bel.frame _, fun h => by cases h⟩

theorem fnExactNewNode_row : Rows.FnExactNewNodeSaid :=
  OpenClaim.holds_of_wide 5 Tryd.f5 rfl rfl rfl rfl rfl rfl rfl ⟨rfl, rfl, rfl, rfl, rfl⟩ rfl rfl rfl rfl rfl (by kernel_rfl) Tryd.func5 (by kernel_rfl)
    (of_decide_eq_true (by kernel_rfl)) (by unfold Func.isWrapper; first | (rw [if_pos (by decide +kernel)]; kernel_rfl) | (rw [if_neg (by decide +kernel)]; exact ⟨rfl, rfl⟩))
    (fun os started H enc _ => lawNewNode_lifted os started H enc)

theorem fnExactNewNode_holds : Rows.FnExactNewNodeCardSaid :=
  Claim7.holds_tied_plain_at .later [] [.sentinel] true Rows.fnExactNewNodeCard.stood.harness true
    fnExactNewNode_row (fun _ h => by cases h) (by kernel_rfl) (fun _ h => by cases h) fnExactNewNode_row_tie rfl ⟨rfl, rfl⟩ (by kernel_rfl) rfl
    (fun f fn hf hfn => by
      obtain rfl : f = 5 := Option.some.inj ((show Tryd.prog.funcNamed Rows.fnExactNewNodeRow.func = some 5 by kernel_rfl).symm.trans hf) |>.symm
      obtain rfl : fn = Tryd.f5 := (Option.some.inj (Tryd.func5.symm.trans hfn)).symm
      exact ⟨by kernel_rfl, fun j t ht => by
        rw [Tryd.params5] at ht
        have hm : t ∈ [2, 2] := by simpa using Array.mem_of_getElem? ht
        have hall : ([2, 2].all fun u => !Tryd.prog.wantsStandIn u) = true := by kernel_rfl
        exact (show Tryd.prog.wantsStandIn t = false by simpa using List.all_eq_true.1 hall t hm)⟩)
    (by kernel_rfl)
#print axioms fnExactNewNode_holds

end Go.Proofs.YtjabllghohapgakDoor
