/-
  Proved: at every text the law FnExactReadCommand answers true, and its argument reads behind the call as it read before. No condition.
-/
import Derived.Test.YtmnohgcjdhokdajRdJ
import Derived.Test.YtmnohgcjdhokdajCmdEq
import Derived.Test.YtmnohgcjdhokdajHasA
import Derived.Test.YtmnohgcjdhokdajHeldA
import Derived.ChangeMaps5
set_option linter.unusedVariables false
set_option linter.unusedSimpArgs false
namespace Go.Proofs.Ytmnohgcjdhokdaj
open Go.ChangeShapes Go.WideShapes Go.ChangeAt Go.RowKit Go.Deep Go.Joins
attribute [local go_sem ↓] Go.wp_at_zero Go.wp_at_succ

theorem markCommand_any (K : Int) (b n cap : Nat) (x y : Int) (f : Nat → Int) (k : Int) (hk0 : 0 ≤ k) (hk1 : k ≤ 4000000) (hn : n ≤ 1048576) (w : World) (h : 0 < n → Has w b n f) (ao : Option Addr) (hao : 0 < n → ao = some ⟨b, 0, none⟩) :
    Calls Try.prog 8 #[.agg #[.int .i64 K, .slice ao n cap, .int .i64 x, .int .i64 y], .int .i64 k] w fun e w' => e = .returned (.int .i64 (k + 3 * n)) ∧ (0 < n → Has w' b n (mk k)) ∧ w.grownBy w' (some b) := by
  go_enter Try.func8, Try.ntmps8
  go_wp2_with (go_at_call 18; refine (markArcS_any b n cap f k hk0 hk1 hn _ (fun hp => (h hp).below ((Below.refl w.heap.size w).alloc (Nat.le_refl _) _) (h hp).lt) ao hao).mono ?_; rintro e w1 ⟨rfl, hh, hg⟩)
  go_ret
  exact ⟨rfl, hh, grown_unbox hg⟩
theorem heldCommand_any (K : Int) (b n cap : Nat) (x y : Int) (k : Int) (hk0 : 0 ≤ k) (hk1 : k ≤ 4000000) (hn : n ≤ 1048576) (w : World) (h : 0 < n → Has w b n (mk k)) (ao : Option Addr) (hao : 0 < n → ao = some ⟨b, 0, none⟩) :
    Calls Try.prog 9 #[.agg #[.int .i64 K, .slice ao n cap, .int .i64 x, .int .i64 y], .int .i64 k] w fun e w' => e = .returned (.int .i64 (k + 3 * n)) ∧ Below w.heap.size w w' := by
  have hp : ¬ (k + 3 * (n : Int)) < 0 := by omega
  go_enter Try.func9, Try.ntmps9
  go_wp2_with (go_at_call 19; refine (heldArcS_any b n cap k hk0 hk1 hn _ (fun hp => (h hp).below ((Below.refl w.heap.size w).alloc (Nat.le_refl _) _) (h hp).lt) ao hao).mono ?_; rintro e w1 ⟨rfl, rfl⟩)
  go_ret
  exact ⟨rfl, (Below.refl _ _).alloc (Nat.le_refl _) _⟩
/-- The arcs of an answer lie in a block between lo and hi, if there are any. -/
def ARs (V : World) (ao : Option Addr) (n lo hi : Nat) (f : Nat → Int) : Prop := 0 < n → ∃ d, ao = some ⟨d, 0, none⟩ ∧ lo ≤ d ∧ d < hi ∧ Has V d n f
theorem ARs.of {V : World} {ao : Option Addr} {n B : Nat} {f : Nat → Int} (h : OwnS V B ao n f) : ARs V ao n B V.heap.size f := fun hn => by
  obtain ⟨d, e, hB, hh⟩ := h 0 hn
  exact ⟨d, e, hB, hh.lt, hh⟩
theorem ARs.next {V V' : World} {ao : Option Addr} {n lo hi : Nat} {f : Nat → Int} (h : ARs V ao n lo hi f) (hb : Below V.heap.size V V') : ARs V' ao n lo hi f := fun hn => by
  obtain ⟨d, e, h1, h2, hh⟩ := h hn
  exact ⟨d, e, h1, h2, hh.below hb hh.lt⟩
theorem ARs.grown {V V' : World} {ao : Option Addr} {n lo hi x : Nat} {f : Nat → Int} (h : ARs V ao n lo hi f) (hg : V.grownBy V' (some x)) (hx : ∀ d, lo ≤ d → d < hi → d ≠ x) : ARs V' ao n lo hi f := fun hn => by
  obtain ⟨d, e, h1, h2, hh⟩ := h hn
  exact ⟨d, e, h1, h2, hh.grown hg (by simp; exact hx d h1 h2)⟩
theorem ARs.row {V : World} {ao : Option Addr} {n lo hi : Nat} {F T G : Nat → Int} (h : ARs V ao n lo hi (ar F T G)) : Row V ao n F T G := fun k hk => by
  obtain ⟨d, e, h1, h2, hh⟩ := h (by omega)
  rw [e]
  exact hh.row k hk
theorem only_le (x : Option (Int × List Int)) : (lOf (onlyOk x)).length / 3 ≤ 10 := by
  cases x with
  | none => simp [onlyOk, lOf]
  | some r =>
    obtain ⟨K, ns⟩ := r
    by_cases hk : okC K ns = true
    · simp only [onlyOk, hk, if_true, lOf]
      by_cases h2 : K = 2
      · subst h2
        simp only [if_true]
        simp [okC, cmdB, batchB] at hk
        omega
      · rw [if_neg h2]
        simp
    · simp [onlyOk, hk, lOf]

set_option maxRecDepth 100000 in
set_option maxHeartbeats 8000000 in
theorem lawRead_walk (s : ByteArray) (hs : s.size ≤ maxLen) (w : World) :
    Calls Try.prog 3 #[.string s] w fun e w' => e = .returned (.bool true) ∧ Below w.heap.size w w' := by
  unfold maxLen at hs
  by_cases hbig : 1048576 < s.size
  · have hbig' : (1048576 : Int) < (s.size : Int) := by omega
    go_enter Try.func3, Try.ntmps3
    go_wp2
    go_ret
    exact ⟨rfl, Below.refl _ _⟩
  have hbig' : ¬ (1048576 : Int) < (s.size : Int) := by omega
  have HS : Hid (∀ W, Calls Try.prog 5 #[.string s] W fun e w' => CAns W w' e (onlyOk (rdS s.data.toList))) := fun W => specRead_any s (by omega) W
  have HI : Hid (∀ W, Calls Try.prog 6 #[.string s] W fun e w' => CAns W w' e (onlyOk (rdS s.data.toList))) := fun W => implRead_same s (by omega) W
  have hle := only_le (rdS s.data.toList)
  unfold CAns tri at HS HI
  generalize kOf (onlyOk (rdS s.data.toList)) = K at HS HI
  generalize aOf (onlyOk (rdS s.data.toList)) 0 = x at HS HI
  generalize aOf (onlyOk (rdS s.data.toList)) 1 = y at HS HI
  generalize (onlyOk (rdS s.data.toList)).isSome = ok at HS HI
  generalize at3 (lOf (onlyOk (rdS s.data.toList))) 0 = F at HS HI
  generalize at3 (lOf (onlyOk (rdS s.data.toList))) 1 = T at HS HI
  generalize at3 (lOf (onlyOk (rdS s.data.toList))) 2 = G at HS HI
  generalize (lOf (onlyOk (rdS s.data.toList))).length / 3 = N at HS HI hle
  have hN9 : N ≤ 1048576 := by omega
  have hcc : (ok != ok) = false := by simp
  clear hbig
  go_enter Try.func3, Try.ntmps3
  go_wp2_with fail
  refine (HS.out _).mono ?_
  rintro e w1 ⟨aoW, capW, rfl, oW, hB⟩
  have hbw := hB
  have sW := ARs.of oW
  clear oW
  have hal := (Below.refl w1.heap.size w1).alloc (Nat.le_refl _) (.cells #[.int .i64 K, .slice aoW N capW, .int .i64 x, .int .i64 y] 24)
  have vS := c4_new w1 (.int .i64 K) (.slice aoW N capW) (.int .i64 x) (.int .i64 y) 24
  replace sW := sW.next hal
  replace hB := below_next hB (Nat.le_refl _) hal
  have hz1 : (w1.alloc (.cells #[.int .i64 K, .slice aoW N capW, .int .i64 x, .int .i64 y] 24)).heap.size = w1.heap.size + 1 := by simp
  clear hal
  go_wp2_with fail
  generalize (w1.alloc (.cells #[.int .i64 K, .slice aoW N capW, .int .i64 x, .int .i64 y] 24)) = W1 at sW vS hB hz1 ⊢
  have hbS : w.heap.size ≤ w1.heap.size := hbw.size
  generalize w1.heap.size = bS at sW vS hz1 hbS ⊢
  refine (HI.out _).mono ?_
  rintro e w2 ⟨aoX, capX, rfl, oX, hb2⟩
  have sX := ARs.of oX
  rw [hz1] at sX
  replace sW := sW.next hb2
  replace vS := vS.next hb2
  have hl2 : bS + 1 ≤ w2.heap.size := by have := hb2.size; omega
  replace hB := below_next hB (Nat.le_refl _) hb2
  clear oX hb2 hz1
  have hal := (Below.refl w2.heap.size w2).alloc (Nat.le_refl _) (.cells #[.int .i64 K, .slice aoX N capX, .int .i64 x, .int .i64 y] 24)
  have vG := c4_new w2 (.int .i64 K) (.slice aoX N capX) (.int .i64 x) (.int .i64 y) 24
  replace sW := sW.next hal
  replace sX := sX.next hal
  replace vS := vS.next hal
  replace hB := below_next hB (Nat.le_refl _) hal
  have hz2 : w2.heap.size + 1 ≤ (w2.alloc (.cells #[.int .i64 K, .slice aoX N capX, .int .i64 x, .int .i64 y] 24)).heap.size := by simp
  clear hal
  have g0 := vG.cell (j := 0) (by omega)
  have g1 := vG.cell (j := 1) (by omega)
  have g2 := vG.cell (j := 2) (by omega)
  have g3 := vG.cell (j := 3) (by omega)
  have s0 := vS.cell (j := 0) (by omega)
  have s1 := vS.cell (j := 1) (by omega)
  have s2 := vS.cell (j := 2) (by omega)
  have s3 := vS.cell (j := 3) (by omega)
  simp only [c4, reduceIte, reduceCtorEq, Nat.reduceEqDiff, Nat.succ_ne_self] at g0 g1 g2 g3 s0 s1 s2 s3
  go_wp2_with fail
  clear g0 g1 g2 g3 s0 s1 s2 s3
  generalize (w2.alloc (.cells #[.int .i64 K, .slice aoX N capX, .int .i64 x, .int .i64 y] 24)) = W2 at sW sX vS vG hB hz2 ⊢
  generalize w2.heap.size = bG at sX vG hl2 hz2 ⊢
  refine (eqCommand_same K aoX aoW N capX capW x y F T G hN9 _ sX.row sW.row).mono ?_
  rintro e w3 ⟨rfl, hb3⟩
  -- TAIL
  replace sW := sW.next hb3
  replace sX := sX.next hb3
  replace vS := vS.next hb3
  replace vG := vG.next hb3
  replace hB := below_next hB (Nat.le_refl _) hb3
  clear hb3
  have g0 := vG.cell (j := 0) (by omega)
  have g1 := vG.cell (j := 1) (by omega)
  have g2 := vG.cell (j := 2) (by omega)
  have g3 := vG.cell (j := 3) (by omega)
  simp only [c4, reduceIte, reduceCtorEq, Nat.reduceEqDiff, Nat.succ_ne_self] at g0 g1 g2 g3
  go_wp2_with fail
  clear g0 g1 g2 g3
  obtain ⟨d, hd1, hd2, hd3, hd4⟩ : ∃ d, (0 < N → aoX = some ⟨d, 0, none⟩) ∧ (0 < N → Has w3 d N (ar F T G)) ∧ bS < d ∧ d ≠ bG := by
    by_cases hN : 0 < N
    · obtain ⟨d, e, h1, h2, hh⟩ := sX hN
      exact ⟨d, fun _ => e, fun _ => hh, by omega, by omega⟩
    · exact ⟨bG + bS + 1, fun h => absurd h hN, fun h => absurd h hN, by omega, by omega⟩
  refine (markCommand_any K d N capX x y (ar F T G) 1 (by omega) (by omega) hN9 _ hd2 aoX hd1).mono ?_
  rintro e w4 ⟨rfl, hh4, hg4⟩
  replace sW := sW.grown hg4 (fun d' _ h2 => by omega)
  replace vS := vS.grown hg4 (by simp; omega)
  replace vG := vG.grown hg4 (by simp; omega)
  replace hB := hB.grown hg4 hB.size (fun j e => by cases e; omega)
  clear hg4 hd2 sX
  have g0 := vG.cell (j := 0) (by omega)
  have g1 := vG.cell (j := 1) (by omega)
  have g2 := vG.cell (j := 2) (by omega)
  have g3 := vG.cell (j := 3) (by omega)
  simp only [c4, reduceIte, reduceCtorEq, Nat.reduceEqDiff, Nat.succ_ne_self] at g0 g1 g2 g3
  go_wp2_with fail
  clear g0 g1 g2 g3
  refine (heldCommand_any K d N capX x y 1 (by omega) (by omega) hN9 _ hh4 aoX hd1).mono ?_
  rintro e w5 ⟨rfl, hb5⟩
  replace sW := sW.next hb5
  replace vS := vS.next hb5
  replace vG := vG.next hb5
  replace hh4 := fun h0 => (hh4 h0).below hb5 (hh4 h0).lt
  replace hB := below_next hB (Nat.le_refl _) hb5
  clear hb5
  have hq0 : ¬ (1 + 3 * (N : Int)) < 0 := by omega
  go_wp2_with fail
  refine (HI.out _).mono ?_
  rintro e w6 ⟨aoZ, capZ, rfl, oZ, hb6⟩
  have sZ := ARs.of oZ
  clear oZ
  replace sW := sW.next hb6
  replace vS := vS.next hb6
  replace vG := vG.next hb6
  replace hh4 := fun h0 => (hh4 h0).below hb6 (hh4 h0).lt
  replace hB := below_next hB (Nat.le_refl _) hb6
  clear hb6
  have hal := (Below.refl w6.heap.size w6).alloc (Nat.le_refl _) (.cells #[.int .i64 K, .slice aoZ N capZ, .int .i64 x, .int .i64 y] 24)
  have vH := c4_new w6 (.int .i64 K) (.slice aoZ N capZ) (.int .i64 x) (.int .i64 y) 24
  replace sZ := sZ.next hal
  replace sW := sW.next hal
  replace vS := vS.next hal
  replace vG := vG.next hal
  replace hh4 := fun h0 => (hh4 h0).below hal (hh4 h0).lt
  replace hB := below_next hB (Nat.le_refl _) hal
  clear hal
  have g0 := vH.cell (j := 0) (by omega)
  have g1 := vH.cell (j := 1) (by omega)
  have g2 := vH.cell (j := 2) (by omega)
  have g3 := vH.cell (j := 3) (by omega)
  simp only [c4, reduceIte, reduceCtorEq, Nat.reduceEqDiff, Nat.succ_ne_self] at g0 g1 g2 g3
  have s0 := vS.cell (j := 0) (by omega)
  have s1 := vS.cell (j := 1) (by omega)
  have s2 := vS.cell (j := 2) (by omega)
  have s3 := vS.cell (j := 3) (by omega)
  simp only [c4, reduceIte, reduceCtorEq, Nat.reduceEqDiff, Nat.succ_ne_self] at s0 s1 s2 s3
  go_wp2_with fail
  clear g0 g1 g2 g3 s0 s1 s2 s3
  generalize (w6.alloc (.cells #[.int .i64 K, .slice aoZ N capZ, .int .i64 x, .int .i64 y] 24)) = W6 at sW sZ vS vG vH hh4 hB ⊢
  refine (eqCommand_same K aoZ aoW N capZ capW x y F T G hN9 _ sZ.row sW.row).mono ?_
  rintro e w7 ⟨rfl, hb7⟩
  clear vH sZ vS sW
  replace vG := vG.next hb7
  replace hh4 := fun h0 => (hh4 h0).below hb7 (hh4 h0).lt
  replace hB := below_next hB (Nat.le_refl _) hb7
  clear hb7
  have g0 := vG.cell (j := 0) (by omega)
  have g1 := vG.cell (j := 1) (by omega)
  have g2 := vG.cell (j := 2) (by omega)
  have g3 := vG.cell (j := 3) (by omega)
  simp only [c4, reduceIte, reduceCtorEq, Nat.reduceEqDiff, Nat.succ_ne_self] at g0 g1 g2 g3
  go_wp2_with fail
  clear g0 g1 g2 g3
  refine (heldCommand_any K d N capX x y 1 (by omega) (by omega) hN9 _ hh4 aoX hd1).mono ?_
  rintro e w8 ⟨rfl, hb8⟩
  replace hB := below_next hB (Nat.le_refl _) hb8
  go_wp2
  go_ret
  exact ⟨rfl, hB⟩

set_option maxRecDepth 100000 in
theorem lawRead_lifted (os : Os) (started : os.Started) (H : Type) (enc : TypeId × Value → H) :
    ReturnsInHanded {} Try.checked os 3 .any (Rows.fnExactReadCommandSpec.pre6 enc Try.prog Try.f3 Rows.fnExactReadCommandRow.domain false) (Rows.fnExactReadCommandSpec.post enc Try.prog Try.f3 false true false false) := by
  refine returnsInHanded_of_change (C := Try.checked) Try.own started (by kernel_rfl) Try.func3
    (ChangeSpec.witness6 (enc := enc) (C := Try.checked) false ⟨#[], #[.string ByteArray.empty], []⟩ 8 (by kernel_rfl) (by kernel_rfl) (by kernel_rfl) (by kernel_rfl)) ?_
  intro W base args ds gs before hval0 hW hcnd _
  have hval : ∀ (j : Nat) t v, Try.f3.params[j]? = some t → args[j]? = some v → Value.okWide Try.prog W .any base t v := hval0
  have hW' := hW
  obtain ⟨p, q, hA0, hV, rfl, hfz, hnd⟩ := hW
  have hA : DataW.TrodAll enc Try.prog W 0 (fun _ => true) true Try.f3.params.toList args.toList ds p := hA0
  rw [Try.params3] at hA hval
  obtain ⟨v0, vs0, d0, ds0, p0, q0, hargs, rfl, rfl, h0, r0⟩ := trodAll_cons hA
  obtain ⟨rfl, rfl, rfl⟩ := trodAll_nil r0
  obtain rfl : args = #[v0] := by cases args; simp_all
  obtain ⟨rfl, rfl⟩ := trodVars_none hV
  have k0 := h0
  have lt0 : ∀ x ∈ p0, x.block < W.heap.size := by obtain ⟨m, hm⟩ := k0; exact DataW.trod_lt m _ _ _ hm
  obtain ⟨s, rfl, rfl, rfl, hs⟩ := Go.ChangeMaps.open_string Try.underlying9 (hval 0 9 v0 rfl rfl) h0
  clear hA0 hval0
  refine (lawRead_walk s hs W).mono fun e W' ⟨he, bel⟩ => ?_
  subst he
  exact ⟨_, rfl, _, _, _, [], _, [], hW', trodAll_mk1 (shut_bool Try.underlying4 _), (trodAll_cons_mk (Below.trod Try.laidOut (by kernel_rfl) (of_decide_eq_true (by kernel_rfl)) k0 bel lt0) trodAll_mk0), rfl, bel.frame _, fun h => by cases h⟩

theorem fnExactReadCommand_holds : Rows.FnExactReadCommandSaid :=
  OpenClaim.holds_of_wide 3 Try.f3 rfl rfl rfl rfl rfl rfl rfl ⟨rfl, rfl, rfl, rfl, rfl⟩ rfl rfl rfl rfl rfl (by kernel_rfl) Try.func3 (by kernel_rfl)
    (of_decide_eq_true (by kernel_rfl)) (by unfold Func.isWrapper; first | (rw [if_pos (by decide +kernel)]; kernel_rfl) | (rw [if_neg (by decide +kernel)]; exact ⟨rfl, rfl⟩))
    (fun os started H enc _ => lawRead_lifted os started H enc)
#print axioms fnExactReadCommand_holds

end Go.Proofs.Ytmnohgcjdhokdaj
