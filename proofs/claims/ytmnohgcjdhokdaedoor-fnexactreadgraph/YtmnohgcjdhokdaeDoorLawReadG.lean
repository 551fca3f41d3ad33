/-
  The walk of the law FnExactReadGraph, at every text. Written by tools/mklawrg.py.
-/
import Derived.Test.YtmnohgcjdhokdaeDoorRdH
import Derived.Test.YtmnohgcjdhokdaeDoorEq
import Derived.Test.YtmnohgcjdhokdaeDoorHasLaw
import Derived.Test.YtmnohgcjdhokdaeDoorHeld
import Derived.Test.YtmnohgcjdhokdaeDoorOkP
set_option linter.unusedVariables false
set_option linter.unusedSimpArgs false
namespace Go.Proofs.YtmnohgcjdhokdaeDoor
open Go.ChangeShapes Go.WideShapes Go.ChangeAt Go.RowKit Go.Deep Go.Joins
attribute [local go_sem ↓] Go.wp_at_zero Go.wp_at_succ

/-- The arcs of an answer lie in a block between lo and hi, if there are any. -/
def ARs (V : World) (ao : Option Addr) (n lo hi : Nat) (f : Nat → Int) : Prop := 0 < n → ∃ d, ao = some ⟨d, 0, none⟩ ∧ lo ≤ d ∧ d < hi ∧ Has V d n f
theorem ARs.of {V : World} {ao : Option Addr} {n B : Nat} {f : Nat → Int} (h : OwnS V B ao n f) : ARs V ao n B V.heap.size f := fun hn => by
  obtain ⟨d, e, hB, hh⟩ := h 0 hn
  exact ⟨d, e, hB, hh.lt, hh⟩
theorem ARs.next {V V' : World} {ao : Option Addr} {n lo hi : Nat} {f : Nat → Int} (h : ARs V ao n lo hi f) (hb : Below V.heap.size V V') : ARs V' ao n lo hi f := fun hn => by
  obtain ⟨d, e, h1, h2, hh⟩ := h hn
  exact ⟨d, e, h1, h2, hh.below hb hh.lt⟩
theorem ARs.grown {V V' : World} {ao : Option Addr} {n lo hi x : Nat} {f : Nat → Int} (h : ARs V ao n lo hi f) (hg : V.grownBy V' (some x)) (hx : ∀ d, lo ≤ d → d < hi → d ≠ x) : ARs V' ao n lo hi f := fun hn => by
  obtain ⟨d, e, h1, h2, hh⟩ := h hn
  exact ⟨d, e, h1, h2, hh.grown hg (by simp; exact hx d h1 h2)⟩
theorem ARs.row {V : World} {ao : Option Addr} {n lo hi : Nat} {F T G : Nat → Int} (h : ARs V ao n lo hi (ar F T G)) : Row V ao n F T G := fun k hk => by
  obtain ⟨d, e, h1, h2, hh⟩ := h (by omega)
  rw [e]
  exact hh.row k hk
theorem gfin_same (l : List UInt8) : gfin (iRead l) = gfin (sRead l) := by
  rw [gread_same]
  cases h : sRead l with
  | none => rfl
  | some ns =>
    by_cases h1 : 301 < ns.length
    · simp only [h1, if_true]
      have h3 : ns.length % 3 = 1 := by
        unfold sRead at h
        split at h
        · split at h
          · cases h
          · next hh => injection h with h; subst h; omega
        · cases h
      unfold gfin
      simp only
      rw [if_neg]
      intro c
      have := (graphB_arcs c).1
      unfold nG at this
      omega
    · simp only [h1, if_false]
/-- The numbers of the map that is read, none where there is none. -/
def gRes (s : ByteArray) : List Int := (gfin (sRead s.data.toList)).getD []
theorem gres_le (s : ByteArray) : nG (gRes s) ≤ 100 := by
  unfold gRes
  cases h : gfin (sRead s.data.toList) with
  | none => simp [nG]
  | some ns =>
    unfold gfin at h
    split at h
    · split at h
      · next hh => injection h with h; subst h; exact (graphB_arcs hh).1
      · cases h
    · cases h
theorem GAns.ex {w w' : World} {e : Ending} {r : Option (List Int)} (h : GAns w w' e r) (hb : Below w.heap.size w w') : ∃ ao cap, e = .returned (.tuple #[.agg #[.int .i64 (gd (r.getD []) 0), .slice ao (nG (r.getD [])) cap], .bool r.isSome]) ∧ OwnS w' w.heap.size ao (nG (r.getD [])) (ar (at3 (r.getD []) 1) (at3 (r.getD []) 2) (at3 (r.getD []) 3)) ∧ Below w.heap.size w w' := by
  cases r with
  | some ns => obtain ⟨ao, cap, e1, e2⟩ := h; exact ⟨ao, cap, e1, e2, hb⟩
  | none => exact ⟨none, 0, h, owns_none _ _ _ _, hb⟩

set_option maxRecDepth 100000 in
set_option maxHeartbeats 8000000 in
theorem lawReadG_walk (s : ByteArray) (hs : s.size ≤ maxLen) (w : World) (m : Int) (hV : Vars w) (hM : w.cell? ⟨1, 0, none⟩ = some (.int .i64 m)) :
    Calls Tryd.prog 4 #[.string s] w fun e w' => e = .returned (.bool true) ∧ Below w.heap.size w w' := by
  unfold maxLen at hs
  by_cases hbig : 1048576 < s.size
  · have hbig' : (1048576 : Int) < (s.size : Int) := by omega
    go_enter Tryd.func4, Tryd.ntmps4
    go_wp2
    go_ret
    exact ⟨rfl, Below.refl _ _⟩
  have hbig' : ¬ (1048576 : Int) < (s.size : Int) := by omega
  have HS : Hid (∀ W, Calls Tryd.prog 10 #[.string s] W fun e w' => ∃ ao cap, e = .returned (.tuple #[.agg #[.int .i64 (gd (gRes s) 0), .slice ao (nG (gRes s)) cap], .bool (gfin (sRead s.data.toList)).isSome]) ∧ OwnS w' W.heap.size ao (nG (gRes s)) (ar (at3 (gRes s) 1) (at3 (gRes s) 2) (at3 (gRes s) 3)) ∧ Below W.heap.size W w') := fun W => (specReadGraph_any s (by omega) W).mono fun e w' h => h.1.ex h.2
  have HI : Hid (∀ W, Below w.heap.size w W → Calls Tryd.prog 11 #[.string s] W fun e w' => ∃ ao cap, e = .returned (.tuple #[.agg #[.int .i64 (gd (gRes s) 0), .slice ao (nG (gRes s)) cap], .bool (gfin (sRead s.data.toList)).isSome]) ∧ OwnS w' W.heap.size ao (nG (gRes s)) (ar (at3 (gRes s) 1) (at3 (gRes s) 2) (at3 (gRes s) 3)) ∧ Below W.heap.size W w') := fun W hW => (implReadGraph_any s (by omega) m W (hV.below hW) (keep_cell hW (Nat.le_refl _) hM)).mono fun e w' h => by
    have h1 := h.1
    rw [gfin_same] at h1
    exact h1.ex h.2
  have hle := gres_le s
  generalize gd (gRes s) 0 = p at HS HI
  generalize (gfin (sRead s.data.toList)).isSome = ok at HS HI
  generalize at3 (gRes s) 1 = F at HS HI
  generalize at3 (gRes s) 2 = T at HS HI
  generalize at3 (gRes s) 3 = G at HS HI
  generalize nG (gRes s) = N at HS HI hle
  have hN9 : N ≤ 1048576 := by omega
  have hcc : (ok != ok) = false := by simp
  clear hbig
  go_enter Tryd.func4, Tryd.ntmps4
  go_wp2_with fail
  refine (HS.out _).mono ?_
  rintro e w1 ⟨aoW, capW, rfl, oW, hB⟩
  have hbw := hB
  have sW := ARs.of oW
  clear oW
  have hal := (Below.refl w1.heap.size w1).alloc (Nat.le_refl _) (.cells #[.int .i64 p, .slice aoW N capW] 29)
  have vS := graph_new w1 (.int .i64 p) (.slice aoW N capW)
  replace sW := sW.next hal
  replace hB := below_next hB (Nat.le_refl _) hal
  have hz1 : (w1.alloc (.cells #[.int .i64 p, .slice aoW N capW] 29)).heap.size = w1.heap.size + 1 := by simp
  clear hal
  go_wp2_with fail
  generalize (w1.alloc (.cells #[.int .i64 p, .slice aoW N capW] 29)) = W1 at sW vS hB hz1 ⊢
  have hbS : w.heap.size ≤ w1.heap.size := hbw.size
  generalize w1.heap.size = bS at sW vS hz1 hbS ⊢
  refine (HI.out _ hB).mono ?_
  rintro e w2 ⟨aoX, capX, rfl, oX, hb2⟩
  have sX := ARs.of oX
  rw [hz1] at sX
  replace sW := sW.next hb2
  replace vS := vS.next hb2
  have hl2 : bS + 1 ≤ w2.heap.size := by have := hb2.size; omega
  replace hB := below_next hB (Nat.le_refl _) hb2
  clear oX hb2 hz1
  have hal := (Below.refl w2.heap.size w2).alloc (Nat.le_refl _) (.cells #[.int .i64 p, .slice aoX N capX] 29)
  have vG := graph_new w2 (.int .i64 p) (.slice aoX N capX)
  replace sW := sW.next hal
  replace sX := sX.next hal
  replace vS := vS.next hal
  replace hB := below_next hB (Nat.le_refl _) hal
  have hz2 : w2.heap.size + 1 ≤ (w2.alloc (.cells #[.int .i64 p, .slice aoX N capX] 29)).heap.size := by simp
  clear hal
  have g0 := vG.cell (j := 0) (by omega)
  have g1 := vG.cell (j := 1) (by omega)
  have s0 := vS.cell (j := 0) (by omega)
  have s1 := vS.cell (j := 1) (by omega)
  simp only [c2, reduceIte, reduceCtorEq, Nat.reduceEqDiff, Nat.succ_ne_self] at g0 g1 s0 s1
  go_wp2_with fail
  clear g0 g1 s0 s1
  generalize (w2.alloc (.cells #[.int .i64 p, .slice aoX N capX] 29)) = W2 at sW sX vS vG hB hz2 ⊢
  generalize w2.heap.size = bG at sX vG hl2 hz2 ⊢
  refine (eqGraph_same p aoX aoW N capX capW F T G hN9 _ sX.row sW.row).mono ?_
  rintro e w3 ⟨rfl, hb3⟩
  -- TAIL
  replace sW := sW.next hb3
  replace sX := sX.next hb3
  replace vS := vS.next hb3
  replace vG := vG.next hb3
  replace hB := below_next hB (Nat.le_refl _) hb3
  clear hb3
  have g0 := vG.cell (j := 0) (by omega)
  have g1 := vG.cell (j := 1) (by omega)
  simp only [c2, reduceIte, reduceCtorEq, Nat.reduceEqDiff, Nat.succ_ne_self] at g0 g1
  go_wp2_with fail
  clear g0 g1
  obtain ⟨d, hd1, hd2, hd3, hd4⟩ : ∃ d, (0 < N → aoX = some ⟨d, 0, none⟩) ∧ (0 < N → Has w3 d N (ar F T G)) ∧ bS < d ∧ d ≠ bG := by
    by_cases hN : 0 < N
    · obtain ⟨d, e, h1, h2, hh⟩ := sX hN
      exact ⟨d, fun _ => e, fun _ => hh, by omega, by omega⟩
    · exact ⟨bG + bS + 1, fun h => absurd h hN, fun h => absurd h hN, by omega, by omega⟩
  refine (markGraph_any p d N capX (ar F T G) 1 (by omega) (by omega) hN9 _ hd2 aoX hd1).mono ?_
  rintro e w4 ⟨rfl, hh4, hg4⟩
  replace sW := sW.grown hg4 (fun d' _ h2 => by omega)
  replace vS := vS.grown hg4 (by simp; omega)
  replace vG := vG.grown hg4 (by simp; omega)
  replace hB := hB.grown hg4 hB.size (fun j e => by cases e; omega)
  clear hg4 hd2 sX
  have g0 := vG.cell (j := 0) (by omega)
  have g1 := vG.cell (j := 1) (by omega)
  simp only [c2, reduceIte, reduceCtorEq, Nat.reduceEqDiff, Nat.succ_ne_self] at g0 g1
  go_wp2_with fail
  clear g0 g1
  refine (heldGraph_any p d N capX 1 (by omega) (by omega) hN9 _ hh4 aoX hd1).mono ?_
  rintro e w5 ⟨rfl, hb5⟩
  replace sW := sW.next hb5
  replace vS := vS.next hb5
  replace vG := vG.next hb5
  replace hh4 := fun h0 => (hh4 h0).below hb5 (hh4 h0).lt
  replace hB := below_next hB (Nat.le_refl _) hb5
  clear hb5
  have hq0 : ¬ (1 + 3 * (N : Int)) < 0 := by omega
  go_wp2_with fail
  refine (HI.out _ hB).mono ?_
  rintro e w6 ⟨aoZ, capZ, rfl, oZ, hb6⟩
  have sZ := ARs.of oZ
  clear oZ
  replace sW := sW.next hb6
  replace vS := vS.next hb6
  replace vG := vG.next hb6
  replace hh4 := fun h0 => (hh4 h0).below hb6 (hh4 h0).lt
  replace hB := below_next hB (Nat.le_refl _) hb6
  clear hb6
  have hal := (Below.refl w6.heap.size w6).alloc (Nat.le_refl _) (.cells #[.int .i64 p, .slice aoZ N capZ] 29)
  have vH := graph_new w6 (.int .i64 p) (.slice aoZ N capZ)
  replace sZ := sZ.next hal
  replace sW := sW.next hal
  replace vS := vS.next hal
  replace vG := vG.next hal
  replace hh4 := fun h0 => (hh4 h0).below hal (hh4 h0).lt
  replace hB := below_next hB (Nat.le_refl _) hal
  clear hal
  have g0 := vH.cell (j := 0) (by omega)
  have g1 := vH.cell (j := 1) (by omega)
  simp only [c2, reduceIte, reduceCtorEq, Nat.reduceEqDiff, Nat.succ_ne_self] at g0 g1
  have s0 := vS.cell (j := 0) (by omega)
  have s1 := vS.cell (j := 1) (by omega)
  simp only [c2, reduceIte, reduceCtorEq, Nat.reduceEqDiff, Nat.succ_ne_self] at s0 s1
  go_wp2_with fail
  clear g0 g1 s0 s1
  generalize (w6.alloc (.cells #[.int .i64 p, .slice aoZ N capZ] 29)) = W6 at sW sZ vS vG vH hh4 hB ⊢
  refine (eqGraph_same p aoZ aoW N capZ capW F T G hN9 _ sZ.row sW.row).mono ?_
  rintro e w7 ⟨rfl, hb7⟩
  clear vH sZ vS sW
  replace vG := vG.next hb7
  replace hh4 := fun h0 => (hh4 h0).below hb7 (hh4 h0).lt
  replace hB := below_next hB (Nat.le_refl _) hb7
  clear hb7
  have g0 := vG.cell (j := 0) (by omega)
  have g1 := vG.cell (j := 1) (by omega)
  simp only [c2, reduceIte, reduceCtorEq, Nat.reduceEqDiff, Nat.succ_ne_self] at g0 g1
  go_wp2_with fail
  clear g0 g1
  refine (heldGraph_any p d N capX 1 (by omega) (by omega) hN9 _ hh4 aoX hd1).mono ?_
  rintro e w8 ⟨rfl, hb8⟩
  replace hB := below_next hB (Nat.le_refl _) hb8
  go_wp2
  go_ret
  exact ⟨rfl, hB⟩


end Go.Proofs.YtmnohgcjdhokdaeDoor
