/-
  Proved: at every map the law FnExactNewService answers true, and its argument reads behind the call as it read before. No condition.
-/
import Derived.Test.YthcgibpiogmmdaiPack5
import Derived.Test.YthcgibpiogmmdaiPack6
import Derived.Deep.RegionHeld3
set_option linter.unusedVariables false
set_option linter.unusedSimpArgs false
namespace Go.Proofs.Ythcgibpiogmmdai
open Go.ChangeShapes Go.WideShapes Go.ChangeAt Go.RowKit Go.Deep Go.Joins
attribute [local go_sem ↓] Go.wp_at_zero Go.wp_at_succ

theorem isSv_ex (p : Int) (n : Nat) (F T G : Nat → Int) : ∃ p' n' M D N L H ok, IsSv p n F T G p' n' M D N L H ok ∧ n' ≤ 100 ∧ M ≤ 24 ∧ N ≤ 1000 := by
  cases h : graphB p n F T G
  · exact ⟨0, 0, 0, fun _ => 0, 0, fun _ => 0, fun _ => 0, false, .inr ⟨h, rfl, rfl, rfl, rfl, rfl⟩, by omega, by omega, by omega⟩
  · exact ⟨p, n, _, _, _, _, _, true, .inl ⟨h, rfl, rfl, rfl, rfl, rfl, rfl, rfl, rfl⟩, (graphB_arcs h).1, lenO_le p n F T G, lenF_le p n F T G _ _⟩

set_option maxRecDepth 100000 in
set_option maxHeartbeats 16000000 in
theorem lawNewService_walk (p : Int) (ao : Option Addr) (n cap : Nat) (F T G : Nat → Int) (hn : n ≤ maxLen) (w : World) (hr : Row w ao n F T G) :
    Calls Try.prog 4 #[.agg #[.int .i64 p, .slice ao n cap]] w fun e w' => e = .returned (.bool true) ∧ Below w.heap.size w w' := by
  unfold maxLen at hn
  have hal := (Below.refl w.heap.size w).alloc (Nat.le_refl _) (.cells #[.int .i64 p, .slice ao n cap] 34)
  by_cases hbig : 1048576 < n
  · go_enter Try.func4, Try.ntmps4
    go_wp2_with fail
    refine (szGraph_out p ao n cap 1048576 (by omega) (by omega) (by omega) (by omega) _).mono ?_
    rintro e w1 ⟨rfl, hb1⟩
    go_wp2
    go_ret
    exact ⟨rfl, below_next hal (Nat.le_refl _) hb1⟩
  have hn' : n ≤ 1048576 := by omega
  have vA := gb2_new w p (.slice ao n cap) 34
  have hrA := hr.below hal (Nat.le_refl _)
  have hB := hal
  obtain ⟨p', n', M, D, N, L, H, ok, hres, hn1, hM1, hN1⟩ := isSv_ex p n F T G
  have HS : Hid (∀ ao' cap' W, Row W ao' n F T G → Calls Try.prog 12 #[.agg #[.int .i64 p, .slice ao' n cap']] W fun e w' => SvAns W w' e p' n' F T G M D N L H ok) := fun ao' cap' W h => specNewService_any p ao' n cap' F T G hn' W h p' n' M N D L H ok hres
  have HI : Hid (∀ ao' cap' W, Row W ao' n F T G → Calls Try.prog 14 #[.agg #[.int .i64 p, .slice ao' n cap']] W fun e w' => SvAns W w' e p' n' F T G M D N L H ok) := fun ao' cap' W h => implNewService_any p ao' n cap' F T G hn' W h p' n' M N D L H ok hres
  have hcc : (ok != ok) = false := by simp
  have hn8 : n' ≤ 1048576 := by omega
  have hM8 : M ≤ 1048576 := by omega
  have hN8 : N ≤ 1048576 := by omega
  clear hres hal
  go_enter Try.func4, Try.ntmps4
  go_wp2_with fail
  generalize (w.alloc (.cells #[.int .i64 p, .slice ao n cap] 34)) = W0 at vA hrA hB ⊢
  obtain ⟨bA, hbA⟩ : ∃ bA, w.heap.size = bA := ⟨_, rfl⟩
  rw [hbA] at vA ⊢
  have HBA : Hid (w.heap.size = bA) := hbA
  clear hbA
  refine (szGraph_in p ao n cap 1048576 (by omega) (by omega) _).mono ?_
  rintro e w1 ⟨rfl, hb1⟩
  replace vA := vA.next hb1
  replace hrA := hrA.below hb1 (Nat.le_refl _)
  replace hB := below_next hB (Nat.le_refl _) hb1
  clear hb1
  have x0 : w1.cell? ⟨bA, 0, none⟩ = some (.int .i64 p) := vA.cell (j := 0) (by omega)
  have x1 : w1.cell? ⟨bA, 1, none⟩ = some (.slice ao n cap) := vA.cell (j := 1) (by omega)
  go_wp2_with fail
  refine (toGraph_any p ao n cap F T G hn' _ hrA).mono ?_
  rintro e w2 ⟨b2, rfl, _, hown2, hb2⟩
  replace vA := vA.next hb2
  replace hrA := hrA.below hb2 (Nat.le_refl _)
  replace hB := below_next hB (Nat.le_refl _) hb2
  clear hb2 x0 x1
  go_wp2_with fail
  refine (HS.out _ _ _ hown2.row).mono ?_
  rintro e w3 ⟨aoW, capW, poW, pcW, eoW, ecW, dW, bW, cW, rfl, sW, ⟨lW, kW, jW, nW, mW⟩, hb3⟩
  replace vA := vA.next hb3
  replace hrA := hrA.below hb3 (Nat.le_refl _)
  replace hB := below_next hB (Nat.le_refl _) hb3
  clear hb3 hown2
  have hal := (Below.refl w3.heap.size w3).alloc (Nat.le_refl _) (.cells #[.int .i64 p', .slice aoW n' capW, .slice poW M pcW, .slice eoW N ecW, .int .i64 0, .slice none 0 0] 44)
  replace vA := vA.next hal
  replace hrA := hrA.below hal (Nat.le_refl _)
  replace sW := sW.next hal
  replace hB := below_next hB (Nat.le_refl _) hal
  clear hal
  have vS := sv6_new w3 p' (.slice aoW n' capW) (.slice poW M pcW) (.slice eoW N ecW) 0 (.slice none 0 0) 44
  have hzvS : (w3.alloc (.cells #[.int .i64 p', .slice aoW n' capW, .slice poW M pcW, .slice eoW N ecW, .int .i64 0, .slice none 0 0] 44)).heap.size = w3.heap.size + 1 := by simp
  have fW : dW < w3.heap.size ∧ bW < w3.heap.size ∧ cW < w3.heap.size := ⟨lW.2, kW.2, jW.2⟩
  clear lW kW jW nW mW
  have x0 : (w3.alloc (.cells #[.int .i64 p', .slice aoW n' capW, .slice poW M pcW, .slice eoW N ecW, .int .i64 0, .slice none 0 0] 44)).cell? ⟨bA, 0, none⟩ = some (.int .i64 p) := vA.cell (j := 0) (by omega)
  have x1 : (w3.alloc (.cells #[.int .i64 p', .slice aoW n' capW, .slice poW M pcW, .slice eoW N ecW, .int .i64 0, .slice none 0 0] 44)).cell? ⟨bA, 1, none⟩ = some (.slice ao n cap) := vA.cell (j := 1) (by omega)
  go_wp2_with fail
  clear x0 x1
  generalize (w3.alloc (.cells #[.int .i64 p', .slice aoW n' capW, .slice poW M pcW, .slice eoW N ecW, .int .i64 0, .slice none 0 0] 44)) = W3 at vA hrA sW vS hB hzvS ⊢
  generalize w3.heap.size = bS at vS hzvS fW ⊢
  refine (toGraph_any p ao n cap F T G hn' _ hrA).mono ?_
  rintro e w4 ⟨bN, rfl, hlN, hown4, hb4⟩
  have oN := Has.of_own hown4
  have fA : bA < bN := by have := vA.lt; omega
  have fN : bS < bN := by omega
  replace vA := vA.next hb4
  replace hrA := hrA.below hb4 (Nat.le_refl _)
  replace sW := sW.next hb4
  replace vS := vS.next hb4
  replace hB := below_next hB (Nat.le_refl _) hb4
  clear hb4 hown4 hlN hzvS
  have fX : bN < w4.heap.size := oN.lt
  have hal := (Below.refl w4.heap.size w4).alloc (Nat.le_refl _) (.cells #[.int .i64 p, .slice (some ⟨bN, 0, none⟩) n n] 37)
  replace vA := vA.next hal
  replace hrA := hrA.below hal (Nat.le_refl _)
  replace sW := sW.next hal
  replace vS := vS.next hal
  replace oN := oN.below hal oN.lt
  replace hB := below_next hB (Nat.le_refl _) hal
  clear hal
  have vX := gb2_new w4 p (.slice (some ⟨bN, 0, none⟩) n n) 37
  have hzvX : (w4.alloc (.cells #[.int .i64 p, .slice (some ⟨bN, 0, none⟩) n n] 37)).heap.size = w4.heap.size + 1 := by simp
  go_wp2_with fail
  generalize (w4.alloc (.cells #[.int .i64 p, .slice (some ⟨bN, 0, none⟩) n n] 37)) = W4 at vA hrA sW vS oN vX hB hzvX ⊢
  generalize w4.heap.size = bX at vX hzvX fX ⊢
  refine (HI.out _ _ _ oN.row).mono ?_
  rintro e w5 ⟨aoX, capX, poX, pcX, eoX, ecX, dX, bY, cX, rfl, sX, ⟨lX, kX, jX, nX, mX⟩, hb5⟩
  replace vA := vA.next hb5
  replace hrA := hrA.below hb5 (Nat.le_refl _)
  replace sW := sW.next hb5
  replace vS := vS.next hb5
  replace oN := oN.below hb5 oN.lt
  replace vX := vX.next hb5
  replace hB := below_next hB (Nat.le_refl _) hb5
  clear hb5
  have fY : (bX < dX ∧ bX < bY ∧ bX < cX) := by omega
  have fZ : dX < w5.heap.size ∧ bY < w5.heap.size ∧ cX < w5.heap.size := ⟨lX.2, kX.2, jX.2⟩
  clear lX kX jX hzvX
  have hal := (Below.refl w5.heap.size w5).alloc (Nat.le_refl _) (.cells #[.int .i64 p', .slice aoX n' capX, .slice poX M pcX, .slice eoX N ecX, .int .i64 0, .slice none 0 0] 44)
  replace vA := vA.next hal
  replace hrA := hrA.below hal (Nat.le_refl _)
  replace sW := sW.next hal
  replace vS := vS.next hal
  replace oN := oN.below hal oN.lt
  replace vX := vX.next hal
  replace sX := sX.next hal
  replace hB := below_next hB (Nat.le_refl _) hal
  clear hal
  have vG := sv6_new w5 p' (.slice aoX n' capX) (.slice poX M pcX) (.slice eoX N ecX) 0 (.slice none 0 0) 44
  have hzvG : (w5.alloc (.cells #[.int .i64 p', .slice aoX n' capX, .slice poX M pcX, .slice eoX N ecX, .int .i64 0, .slice none 0 0] 44)).heap.size = w5.heap.size + 1 := by simp
  have x0 : (w5.alloc (.cells #[.int .i64 p', .slice aoX n' capX, .slice poX M pcX, .slice eoX N ecX, .int .i64 0, .slice none 0 0] 44)).cell? ⟨bS, 0, none⟩ = some (.int .i64 p') := vS.cell (j := 0) (by omega)
  have x1 : (w5.alloc (.cells #[.int .i64 p', .slice aoX n' capX, .slice poX M pcX, .slice eoX N ecX, .int .i64 0, .slice none 0 0] 44)).cell? ⟨bS, 1, none⟩ = some (.slice aoW n' capW) := vS.cell (j := 1) (by omega)
  have x2 : (w5.alloc (.cells #[.int .i64 p', .slice aoX n' capX, .slice poX M pcX, .slice eoX N ecX, .int .i64 0, .slice none 0 0] 44)).cell? ⟨bS, 2, none⟩ = some (.slice poW M pcW) := vS.cell (j := 2) (by omega)
  have x3 : (w5.alloc (.cells #[.int .i64 p', .slice aoX n' capX, .slice poX M pcX, .slice eoX N ecX, .int .i64 0, .slice none 0 0] 44)).cell? ⟨bS, 3, none⟩ = some (.slice eoW N ecW) := vS.cell (j := 3) (by omega)
  have x4 : (w5.alloc (.cells #[.int .i64 p', .slice aoX n' capX, .slice poX M pcX, .slice eoX N ecX, .int .i64 0, .slice none 0 0] 44)).cell? ⟨bS, 4, none⟩ = some (.int .i64 0) := vS.cell (j := 4) (by omega)
  have x5 : (w5.alloc (.cells #[.int .i64 p', .slice aoX n' capX, .slice poX M pcX, .slice eoX N ecX, .int .i64 0, .slice none 0 0] 44)).cell? ⟨bS, 5, none⟩ = some (.slice none 0 0) := vS.cell (j := 5) (by omega)
  go_wp2_with fail
  clear x0 x1 x2 x3 x4 x5
  generalize (w5.alloc (.cells #[.int .i64 p', .slice aoX n' capX, .slice poX M pcX, .slice eoX N ecX, .int .i64 0, .slice none 0 0] 44)) = W5 at vA hrA sW vS oN vX sX vG hB hzvG ⊢
  generalize w5.heap.size = bG at vG hzvG fZ ⊢
  clear hzvG
  refine (eqService_same p' aoX poX eoX aoW poW eoW n' capX capW M pcX pcW N ecX ecW F T G D L H hn8 hM8 hN8 _ sX.ra sW.ra sX.ri sW.ri sX.re sW.re).mono ?_
  rintro e w7 ⟨rfl, hbq⟩
  replace vA := vA.next hbq
  replace hrA := hrA.below hbq (Nat.le_refl _)
  replace sW := sW.next hbq
  replace vS := vS.next hbq
  replace oN := oN.below hbq oN.lt
  replace vX := vX.next hbq
  replace sX := sX.next hbq
  replace vG := vG.next hbq
  replace hB := below_next hB (Nat.le_refl _) hbq
  clear hbq
  have x0 : w7.cell? ⟨bA, 0, none⟩ = some (.int .i64 p) := vA.cell (j := 0) (by omega)
  have x1 : w7.cell? ⟨bA, 1, none⟩ = some (.slice ao n cap) := vA.cell (j := 1) (by omega)
  have y0 : w7.cell? ⟨bX, 0, none⟩ = some (.int .i64 p) := vX.cell (j := 0) (by omega)
  have y1 : w7.cell? ⟨bX, 1, none⟩ = some (.slice (some ⟨bN, 0, none⟩) n n) := vX.cell (j := 1) (by omega)
  have hrd := hrA.below (Below.refl w7.heap.size w7).drew (Nat.le_refl _)
  have hxd := oN.row.below (Below.refl w7.heap.size w7).drew (Nat.le_refl _)
  go_wp2_with fail
  go_region_held3 (fun w' => w'.cell? ⟨bX, 0, none⟩ = some (.int .i64 p) ∧ w'.cell? ⟨bX, 1, none⟩ = some (.slice (some ⟨bN, 0, none⟩) n n) ∧ w'.cell? ⟨bA, 0, none⟩ = some (.int .i64 p) ∧ w'.cell? ⟨bA, 1, none⟩ = some (.slice ao n cap))
    (first | (go_split_ands; refine ⟨?_, ?_, ?_, ?_⟩ <;> first | exact keep_cell hbv (Nat.le_refl _) (by assumption) | exact keep_cell hbu (Nat.le_refl _) (by assumption)) | go_keep)
    (first | (go_at_call 13; refine (toGraph_any p ao n cap F T G hn' _ hrd).mono ?_; rintro e wu ⟨bu, rfl, hbu', hownu, hbu⟩) | (go_at_call 16; refine (eqGraph_same p _ _ n n n F T G hn' _ (hxd.below hbu (Nat.le_refl _)) hownu.row).mono ?_; rintro e wv ⟨rfl, hbv⟩))
  have hbt := below_next (below_next (Below.refl w7.heap.size w7).drew (Nat.le_refl _) hbu) (Nat.le_refl _) hbv
  go_split_ands
  replace vA := vA.next hbt
  replace hrA := hrA.below hbt (Nat.le_refl _)
  replace sW := sW.next hbt
  replace vS := vS.next hbt
  replace oN := oN.below hbt oN.lt
  replace vX := vX.next hbt
  replace sX := sX.next hbt
  replace vG := vG.next hbt
  replace hB := below_next hB (Nat.le_refl _) hbt
  clear hbt hbu hbv hrd hxd hownu x0 x1 y0 y1
  have y0 : wv.cell? ⟨bX, 0, none⟩ = some (.int .i64 p) := vX.cell (j := 0) (by omega)
  have y1 : wv.cell? ⟨bX, 1, none⟩ = some (.slice (some ⟨bN, 0, none⟩) n n) := vX.cell (j := 1) (by omega)
  go_wp2_with fail
  refine (markGraph_any p bN n n (ar F T G) 1 (by omega) (by omega) hn' _ (fun _ => oN) _ (fun _ => rfl)).mono ?_
  rintro e wm ⟨rfl, _, hgm⟩
  replace vA := vA.grown hgm (by simp; omega)
  replace vS := vS.grown hgm (by simp; omega)
  replace vG := vG.grown hgm (by simp; omega)
  have Tm := Turns.of_grown hgm
  replace sW := sW.turn Tm (by simp; omega) (by simp; omega) (by simp; omega)
  replace sX := sX.turn Tm (by simp; omega) (by simp; omega) (by simp; omega)
  have hbm : Below bN wv wm := Tm.below (Nat.le_of_lt oN.lt) (by simp)
  replace hrA := hr.below (hB.trans (hbm.mono (by have := HBA.out; omega))) (Nat.le_refl _)
  replace hB := hB.trans (hbm.mono (by have := HBA.out; omega))
  clear hbm hgm Tm oN vX y0 y1
  have hk9 : ¬ 1 + 3 * (n : Int) < 0 := by omega
  have x0 : wm.cell? ⟨bS, 0, none⟩ = some (.int .i64 p') := vS.cell (j := 0) (by omega)
  have x1 : wm.cell? ⟨bS, 1, none⟩ = some (.slice aoW n' capW) := vS.cell (j := 1) (by omega)
  have x2 : wm.cell? ⟨bS, 2, none⟩ = some (.slice poW M pcW) := vS.cell (j := 2) (by omega)
  have x3 : wm.cell? ⟨bS, 3, none⟩ = some (.slice eoW N ecW) := vS.cell (j := 3) (by omega)
  have x4 : wm.cell? ⟨bS, 4, none⟩ = some (.int .i64 0) := vS.cell (j := 4) (by omega)
  have x5 : wm.cell? ⟨bS, 5, none⟩ = some (.slice none 0 0) := vS.cell (j := 5) (by omega)
  have y0 : wm.cell? ⟨bG, 0, none⟩ = some (.int .i64 p') := vG.cell (j := 0) (by omega)
  have y1 : wm.cell? ⟨bG, 1, none⟩ = some (.slice aoX n' capX) := vG.cell (j := 1) (by omega)
  have y2 : wm.cell? ⟨bG, 2, none⟩ = some (.slice poX M pcX) := vG.cell (j := 2) (by omega)
  have y3 : wm.cell? ⟨bG, 3, none⟩ = some (.slice eoX N ecX) := vG.cell (j := 3) (by omega)
  have y4 : wm.cell? ⟨bG, 4, none⟩ = some (.int .i64 0) := vG.cell (j := 4) (by omega)
  have y5 : wm.cell? ⟨bG, 5, none⟩ = some (.slice none 0 0) := vG.cell (j := 5) (by omega)
  go_wp2_with fail
  clear x0 x1 x2 x3 x4 x5 y0 y1 y2 y3 y4 y5
  refine (eqService_same p' aoX poX eoX aoW poW eoW n' capX capW M pcX pcW N ecX ecW F T G D L H hn8 hM8 hN8 _ sX.ra sW.ra sX.ri sW.ri sX.re sW.re).mono ?_
  rintro e wn ⟨rfl, hbq⟩
  replace vA := vA.next hbq
  replace hrA := hrA.below hbq (Nat.le_refl _)
  replace sW := sW.next hbq
  replace vS := vS.next hbq
  replace sX := sX.next hbq
  replace vG := vG.next hbq
  replace hB := below_next hB (Nat.le_refl _) hbq
  clear hbq
  have y0 : wn.cell? ⟨bG, 0, none⟩ = some (.int .i64 p') := vG.cell (j := 0) (by omega)
  have y1 : wn.cell? ⟨bG, 1, none⟩ = some (.slice aoX n' capX) := vG.cell (j := 1) (by omega)
  have y2 : wn.cell? ⟨bG, 2, none⟩ = some (.slice poX M pcX) := vG.cell (j := 2) (by omega)
  have y3 : wn.cell? ⟨bG, 3, none⟩ = some (.slice eoX N ecX) := vG.cell (j := 3) (by omega)
  have y4 : wn.cell? ⟨bG, 4, none⟩ = some (.int .i64 0) := vG.cell (j := 4) (by omega)
  have y5 : wn.cell? ⟨bG, 5, none⟩ = some (.slice none 0 0) := vG.cell (j := 5) (by omega)
  have hGl := vG.lt
  go_wp2_with fail
  clear y0 y1 y2 y3 y4 y5
  refine (markService_any p' aoX poX eoX n' capX M pcX N ecX dX bY cX _ _ _ 1 (by omega) (by omega) (by omega) (by omega) _ sX (by omega) (by omega) (by omega) nX mX (by omega)).mono ?_
  rintro e wo ⟨rfl, sY, To⟩
  replace vA := vA.of_block (To.block bA vA.lt (by simp; omega))
  replace vS := vS.of_block (To.block bS vS.lt (by simp; omega))
  replace vG := vG.of_block (To.block bG vG.lt (by simp; omega))
  replace sW := sW.turn To (by simp; omega) (by simp; omega) (by simp; omega)
  have hbo : Below bN wn wo := To.below (by omega) (by simp; omega)
  replace hrA := hr.below (hB.trans (hbo.mono (by have := HBA.out; omega))) (Nat.le_refl _)
  replace hB := hB.trans (hbo.mono (by have := HBA.out; omega))
  clear hbo To sX hGl
  have y0 : wo.cell? ⟨bG, 0, none⟩ = some (.int .i64 p') := vG.cell (j := 0) (by omega)
  have y1 : wo.cell? ⟨bG, 1, none⟩ = some (.slice aoX n' capX) := vG.cell (j := 1) (by omega)
  have y2 : wo.cell? ⟨bG, 2, none⟩ = some (.slice poX M pcX) := vG.cell (j := 2) (by omega)
  have y3 : wo.cell? ⟨bG, 3, none⟩ = some (.slice eoX N ecX) := vG.cell (j := 3) (by omega)
  have y4 : wo.cell? ⟨bG, 4, none⟩ = some (.int .i64 0) := vG.cell (j := 4) (by omega)
  have y5 : wo.cell? ⟨bG, 5, none⟩ = some (.slice none 0 0) := vG.cell (j := 5) (by omega)
  go_wp2_with fail
  clear y0 y1 y2 y3 y4 y5
  refine (heldService_any p' aoX poX eoX n' capX M pcX N ecX dX bY cX 1 (by omega) (by omega) (by omega) (by omega) _ sY (by omega)).mono ?_
  rintro e wp9 ⟨rfl, hbq⟩
  replace vA := vA.next hbq
  replace hrA := hrA.below hbq (Nat.le_refl _)
  replace sW := sW.next hbq
  replace vS := vS.next hbq
  replace sY := sY.next hbq
  replace vG := vG.next hbq
  replace hB := below_next hB (Nat.le_refl _) hbq
  clear hbq
  have hq9 : ¬ 1 + 3 * (n' : Int) + M + 2 * N < 0 := by omega
  have x0 : wp9.cell? ⟨bA, 0, none⟩ = some (.int .i64 p) := vA.cell (j := 0) (by omega)
  have x1 : wp9.cell? ⟨bA, 1, none⟩ = some (.slice ao n cap) := vA.cell (j := 1) (by omega)
  go_wp2_with fail
  clear x0 x1
  refine (toGraph_any p ao n cap F T G hn' _ hrA).mono ?_
  rintro e wr ⟨b3, rfl, _, hown3, hbq⟩
  replace vA := vA.next hbq
  replace hrA := hrA.below hbq (Nat.le_refl _)
  replace sW := sW.next hbq
  replace vS := vS.next hbq
  replace sY := sY.next hbq
  replace vG := vG.next hbq
  replace hB := below_next hB (Nat.le_refl _) hbq
  clear hbq
  go_wp2_with fail
  refine (HI.out _ _ _ hown3.row).mono ?_
  rintro e ws ⟨aoZ, capZ, poZ, pcZ, eoZ, ecZ, dZ, bZ, cZ, rfl, sZ, _, hbq⟩
  replace vA := vA.next hbq
  replace hrA := hrA.below hbq (Nat.le_refl _)
  replace sW := sW.next hbq
  replace vS := vS.next hbq
  replace sY := sY.next hbq
  replace vG := vG.next hbq
  replace hB := below_next hB (Nat.le_refl _) hbq
  clear hbq hown3
  have hal := (Below.refl ws.heap.size ws).alloc (Nat.le_refl _) (.cells #[.int .i64 p', .slice aoZ n' capZ, .slice poZ M pcZ, .slice eoZ N ecZ, .int .i64 0, .slice none 0 0] 44)
  replace vA := vA.next hal
  replace hrA := hrA.below hal (Nat.le_refl _)
  replace sW := sW.next hal
  replace vS := vS.next hal
  replace sY := sY.next hal
  replace vG := vG.next hal
  replace sZ := sZ.next hal
  replace hB := below_next hB (Nat.le_refl _) hal
  clear hal
  have vZ := sv6_new ws p' (.slice aoZ n' capZ) (.slice poZ M pcZ) (.slice eoZ N ecZ) 0 (.slice none 0 0) 44
  have hzvZ : (ws.alloc (.cells #[.int .i64 p', .slice aoZ n' capZ, .slice poZ M pcZ, .slice eoZ N ecZ, .int .i64 0, .slice none 0 0] 44)).heap.size = ws.heap.size + 1 := by simp
  have x0 : (ws.alloc (.cells #[.int .i64 p', .slice aoZ n' capZ, .slice poZ M pcZ, .slice eoZ N ecZ, .int .i64 0, .slice none 0 0] 44)).cell? ⟨bS, 0, none⟩ = some (.int .i64 p') := vS.cell (j := 0) (by omega)
  have x1 : (ws.alloc (.cells #[.int .i64 p', .slice aoZ n' capZ, .slice poZ M pcZ, .slice eoZ N ecZ, .int .i64 0, .slice none 0 0] 44)).cell? ⟨bS, 1, none⟩ = some (.slice aoW n' capW) := vS.cell (j := 1) (by omega)
  have x2 : (ws.alloc (.cells #[.int .i64 p', .slice aoZ n' capZ, .slice poZ M pcZ, .slice eoZ N ecZ, .int .i64 0, .slice none 0 0] 44)).cell? ⟨bS, 2, none⟩ = some (.slice poW M pcW) := vS.cell (j := 2) (by omega)
  have x3 : (ws.alloc (.cells #[.int .i64 p', .slice aoZ n' capZ, .slice poZ M pcZ, .slice eoZ N ecZ, .int .i64 0, .slice none 0 0] 44)).cell? ⟨bS, 3, none⟩ = some (.slice eoW N ecW) := vS.cell (j := 3) (by omega)
  have x4 : (ws.alloc (.cells #[.int .i64 p', .slice aoZ n' capZ, .slice poZ M pcZ, .slice eoZ N ecZ, .int .i64 0, .slice none 0 0] 44)).cell? ⟨bS, 4, none⟩ = some (.int .i64 0) := vS.cell (j := 4) (by omega)
  have x5 : (ws.alloc (.cells #[.int .i64 p', .slice aoZ n' capZ, .slice poZ M pcZ, .slice eoZ N ecZ, .int .i64 0, .slice none 0 0] 44)).cell? ⟨bS, 5, none⟩ = some (.slice none 0 0) := vS.cell (j := 5) (by omega)
  go_wp2_with fail
  clear x0 x1 x2 x3 x4 x5
  generalize (ws.alloc (.cells #[.int .i64 p', .slice aoZ n' capZ, .slice poZ M pcZ, .slice eoZ N ecZ, .int .i64 0, .slice none 0 0] 44)) = W9 at vA hrA sW vS sY vG sZ vZ hB hzvZ ⊢
  generalize ws.heap.size = bZb at vZ hzvZ  ⊢
  clear hzvZ
  refine (eqService_same p' aoZ poZ eoZ aoW poW eoW n' capZ capW M pcZ pcW N ecZ ecW F T G D L H hn8 hM8 hN8 _ sZ.ra sW.ra sZ.ri sW.ri sZ.re sW.re).mono ?_
  rintro e wt ⟨rfl, hbq⟩
  replace vA := vA.next hbq
  replace hrA := hrA.below hbq (Nat.le_refl _)
  replace sW := sW.next hbq
  replace vS := vS.next hbq
  replace sY := sY.next hbq
  replace vG := vG.next hbq
  replace sZ := sZ.next hbq
  replace vZ := vZ.next hbq
  replace hB := below_next hB (Nat.le_refl _) hbq
  clear hbq
  have y0 : wt.cell? ⟨bG, 0, none⟩ = some (.int .i64 p') := vG.cell (j := 0) (by omega)
  have y1 : wt.cell? ⟨bG, 1, none⟩ = some (.slice aoX n' capX) := vG.cell (j := 1) (by omega)
  have y2 : wt.cell? ⟨bG, 2, none⟩ = some (.slice poX M pcX) := vG.cell (j := 2) (by omega)
  have y3 : wt.cell? ⟨bG, 3, none⟩ = some (.slice eoX N ecX) := vG.cell (j := 3) (by omega)
  have y4 : wt.cell? ⟨bG, 4, none⟩ = some (.int .i64 0) := vG.cell (j := 4) (by omega)
  have y5 : wt.cell? ⟨bG, 5, none⟩ = some (.slice none 0 0) := vG.cell (j := 5) (by omega)
  go_wp2_with fail
  clear y0 y1 y2 y3 y4 y5
  refine (heldService_any p' aoX poX eoX n' capX M pcX N ecX dX bY cX 1 (by omega) (by omega) (by omega) (by omega) _ sY (by omega)).mono ?_
  rintro e wx ⟨rfl, hbq⟩
  replace vA := vA.next hbq
  replace hrA := hrA.below hbq (Nat.le_refl _)
  replace sW := sW.next hbq
  replace vS := vS.next hbq
  replace sY := sY.next hbq
  replace vG := vG.next hbq
  replace sZ := sZ.next hbq
  replace vZ := vZ.next hbq
  replace hB := below_next hB (Nat.le_refl _) hbq
  clear hbq
  go_wp2
  go_ret
  exact ⟨rfl, hB⟩

set_option maxRecDepth 100000 in
theorem lawNewService_lifted (os : Os) (started : os.Started) (H : Type) (enc : TypeId × Value → H) :
    ReturnsInHanded {} Try.checked os 4 .any (Rows.fnExactNewServiceSpec.pre6 enc Try.prog Try.f4 Rows.fnExactNewServiceRow.domain false) (Rows.fnExactNewServiceSpec.post enc Try.prog Try.f4 false true false false) := by
  refine returnsInHanded_of_change (C := Try.checked) Try.own started (by kernel_rfl) Try.func4
    (ChangeSpec.witness6 (enc := enc) (C := Try.checked) false ⟨#[], #[.agg #[.int .i64 0, .slice none 0 0]], []⟩ 8 (by kernel_rfl) (by kernel_rfl) (by kernel_rfl) (by kernel_rfl)) ?_
  intro W base args ds gs before hval0 hW hcnd _
  have hval : ∀ (j : Nat) t v, Try.f4.params[j]? = some t → args[j]? = some v → Value.okWide Try.prog W .any base t v := hval0
  have hW' := hW
  obtain ⟨p, q, hA0, hV, rfl, hfz, hnd⟩ := hW
  have hA : DataW.TrodAll enc Try.prog W 0 (fun _ => true) true Try.f4.params.toList args.toList ds p := hA0
  rw [Try.params4] at hA hval
  obtain ⟨v0, vs0, d0, ds0, p0, q0, hargs, rfl, rfl, h0, r0⟩ := trodAll_cons hA
  obtain ⟨rfl, rfl, rfl⟩ := trodAll_nil r0
  obtain rfl : args = #[v0] := by cases args; simp_all
  obtain ⟨rfl, rfl⟩ := trodVars_none hV
  have k0 := h0
  have lt0 : ∀ x ∈ p0, x.block < W.heap.size := by obtain ⟨m, hm⟩ := k0; exact DataW.trod_lt m _ _ _ hm
  obtain ⟨c0, c1, y0, y1, m, rfl, _, _, hy0, hy1⟩ := open_agg2 Try.underlying34 (by kernel_rfl) Try.cellsLGraph (hval 0 34 v0 rfl rfl) h0
  obtain ⟨pl, e0, _, _⟩ := DataW.trod_int Try.underlying2 hy0
  obtain ⟨ao, n, cap, F, T, G, e1, hn, hr⟩ := open_arcs hy1
  simp at e0 e1
  subst e0 e1
  clear hA0 hval0
  refine (lawNewService_walk pl ao n cap F T G hn W hr).mono fun e W' ⟨he, bel⟩ => ?_
  subst he
  exact ⟨_, rfl, _, _, _, [], _, [], hW', trodAll_mk1 (shut_bool Try.underlying4 _), (trodAll_cons_mk (Below.trod Try.laidOut (by kernel_rfl) (of_decide_eq_true (by kernel_rfl)) k0 bel lt0) trodAll_mk0), rfl, bel.frame _, fun h => by cases h⟩

theorem fnExactNewService_holds : Rows.FnExactNewServiceSaid :=
  OpenClaim.holds_of_wide 4 Try.f4 rfl rfl rfl rfl rfl rfl rfl ⟨rfl, rfl, rfl, rfl, rfl⟩ rfl rfl rfl rfl rfl (by kernel_rfl) Try.func4 (by kernel_rfl)
    (of_decide_eq_true (by kernel_rfl)) (by unfold Func.isWrapper; first | (rw [if_pos (by decide +kernel)]; kernel_rfl) | (rw [if_neg (by decide +kernel)]; exact ⟨rfl, rfl⟩))
    (fun os started H enc _ => lawNewService_lifted os started H enc)
#print axioms fnExactNewService_holds

end Go.Proofs.Ythcgibpiogmmdai
