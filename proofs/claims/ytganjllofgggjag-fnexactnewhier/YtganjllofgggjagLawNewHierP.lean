/-
  Proved: at every map the law FnExactNewHier answers true, and its argument reads behind the call as it read before. No condition.
-/
import Derived.Test.YtganjllofgggjagPack4
import Derived.Test.YtganjllofgggjagPack5
set_option linter.unusedVariables false
set_option linter.unusedSimpArgs false
namespace Go.Proofs.Ytganjllofgggjag
open Go.ChangeShapes Go.WideShapes Go.ChangeAt Go.RowKit Go.Deep Go.Joins
attribute [local go_sem ↓] Go.wp_at_zero Go.wp_at_succ

set_option maxHeartbeats 8000000 in
theorem lawNewHier_walk (p : Int) (ao : Option Addr) (n cap : Nat) (F T G : Nat → Int) (hnM : n ≤ maxLen) (w : World) (hr : Row w ao n F T G) :
    Calls Try.prog 6 #[.agg #[.int .i64 p, .slice ao n cap]] w fun e w' => e = .returned (.bool true) ∧ Below w.heap.size w w' := by
  unfold maxLen at hnM
  by_cases hbig0 : 1048576 < 0 + (n : Int)
  · go_enter Try.func6, Try.ntmps6
    have hB0 : Below w.heap.size w (w.alloc (.cells #[.int .i64 p, .slice ao n cap] 38)) := ((Below.refl _ w).alloc (Nat.le_refl _) _)
    go_wp2_with fail
    refine (szGraph_out p ao n cap (1048576) (by omega) (by omega) (by omega) (by omega) _).mono ?_
    rintro e z0 ⟨rfl, hz0⟩
    replace hB0 := below_next hB0 (Nat.le_refl _) hz0
    go_wp2
    go_ret
    exact ⟨rfl, hB0⟩
  have hn : n ≤ 1048576 := by omega
  obtain ⟨M, hM⟩ : ∃ M, lenO p n F T G = M := ⟨_, rfl⟩
  obtain ⟨D, hD⟩ : ∃ D, listO p n F T = D := ⟨_, rfl⟩
  obtain ⟨N, hN⟩ : ∃ N, lenF p n F T G M D = N := ⟨_, rfl⟩
  obtain ⟨L, hL⟩ : ∃ L, Lf (lstF p n F T D) = L := ⟨_, rfl⟩
  obtain ⟨H, hH⟩ : ∃ H, Hf (lstF p n F T D) = H := ⟨_, rfl⟩
  have hM24 : M ≤ 24 := by rw [← hM]; exact lenO_le p n F T G
  have hN24 : N ≤ 1000 := by rw [← hN]; exact lenF_le p n F T G M D
  have hspec := fun ao' cap' W hr' => specNewHier_any p ao' n cap' F T G hn W hr'
  have himpl := fun ao' cap' W hr' => implNewHier_any p ao' n cap' F T G hn W hr'
  rw [hM, hD, hN, hL, hH] at hspec himpl
  have HSP : Hid (∀ ao' cap' W, Row W ao' n F T G → Calls Try.prog 23 #[.agg #[.int .i64 p, .slice ao' n cap']] W fun e w' => HAns W w' e M D N L H) := hspec
  have HIM : Hid (∀ ao' cap' W, Row W ao' n F T G → Calls Try.prog 25 #[.agg #[.int .i64 p, .slice ao' n cap']] W fun e w' => HAns W w' e M D N L H) := himpl
  clear hspec himpl hM hD hN hL hH
  have hM9 : M ≤ 1048576 := by omega
  have hN9 : N ≤ 1048576 := by omega
  go_enter Try.func6, Try.ntmps6
  have hB : Below w.heap.size w (w.alloc (.cells #[.int .i64 p, .slice ao n cap] 38)) := ((Below.refl _ w).alloc (Nat.le_refl _) _)
  have y00 : (w.alloc (.cells #[.int .i64 p, .slice ao n cap] 38)).cell? ⟨w.heap.size, 0, none⟩ = some (.int .i64 p) := by simp [go_sem]
  have y01 : (w.alloc (.cells #[.int .i64 p, .slice ao n cap] 38)).cell? ⟨w.heap.size, 1, none⟩ = some (.slice ao n cap) := by simp [go_sem]
  have sz0 : (w.alloc (.cells #[.int .i64 p, .slice ao n cap] 38)).heap.size = w.heap.size + 1 := by simp
  go_wp2_with fail
  refine (szGraph_in p ao n cap (1048576) (by omega) (by omega) _).mono ?_
  rintro e w1 ⟨rfl, hbz⟩
  replace y00 := keep_cell hbz (Nat.le_refl _) y00
  replace y01 := keep_cell hbz (Nat.le_refl _) y01
  replace hB := below_next hB (Nat.le_refl _) hbz
  have sz1 := hbz.size
  clear hbz
  go_wp2_with fail
  refine (toGraph_any p ao n cap F T G hn _ (hr.below hB (Nat.le_refl _))).mono ?_
  rintro e w2 ⟨bs0, rfl, hls0, os0, hbs0⟩
  replace y00 := keep_cell hbs0 (Nat.le_refl _) y00
  replace y01 := keep_cell hbs0 (Nat.le_refl _) y01
  replace hB := below_next hB (Nat.le_refl _) hbs0
  have szw2 := hbs0.size
  go_wp2_with fail
  refine (HSP.out _ _ _ os0.row).mono ?_
  rintro e w3 ⟨aoW, capW, eoW, ecapW, rfl, hWi, hWe, hWs, hbF⟩
  replace y00 := keep_cell hbF (Nat.le_refl _) y00
  replace y01 := keep_cell hbF (Nat.le_refl _) y01
  replace hB := below_next hB (Nat.le_refl _) hbF
  have szw3 := hbF.size
  obtain ⟨bW, cW, eW1, iW, eW2, jW, lW, kW, nW⟩ := pick2 hWi hWe (fun _ h => h.lt) (fun _ h => h.lt) (fun g g' _ _ h k e => ihas_ehas h (e ▸ k)) hWs
  clear hWi hWe hWs hbF hls0 os0 hbs0 nW
  have hal4 := (Below.refl w3.heap.size w3).alloc (Nat.le_refl _) (.cells #[.slice aoW M capW, .slice eoW N ecapW] 41)
  replace y00 := keep_cell hal4 (Nat.le_refl _) y00
  replace y01 := keep_cell hal4 (Nat.le_refl _) y01
  replace iW := fun x => (iW x).below hal4 (iW x).lt
  replace jW := fun x => (jW x).below hal4 (jW x).lt
  replace hB := below_next hB (Nat.le_refl _) hal4
  have zW0 : (w3.alloc (.cells #[.slice aoW M capW, .slice eoW N ecapW] 41)).cell? ⟨w3.heap.size, 0, none⟩ = some (.slice aoW M capW) := by simp [go_sem]
  have zW1 : (w3.alloc (.cells #[.slice aoW M capW, .slice eoW N ecapW] 41)).cell? ⟨w3.heap.size, 1, none⟩ = some (.slice eoW N ecapW) := by simp [go_sem]
  have sz4 : (w3.alloc (.cells #[.slice aoW M capW, .slice eoW N ecapW] 41)).heap.size = w3.heap.size + 1 := by simp
  clear hal4
  go_wp2_with fail
  refine (toGraph_any p ao n cap F T G hn _ (hr.below hB (Nat.le_refl _))).mono ?_
  rintro e w5 ⟨b0, rfl, hl0, o0, hb0⟩
  replace y00 := keep_cell hb0 (Nat.le_refl _) y00
  replace y01 := keep_cell hb0 (Nat.le_refl _) y01
  replace iW := fun x => (iW x).below hb0 (iW x).lt
  replace jW := fun x => (jW x).below hb0 (jW x).lt
  replace zW0 := keep_cell hb0 (Nat.le_refl _) zW0
  replace zW1 := keep_cell hb0 (Nat.le_refl _) zW1
  replace hB := below_next hB (Nat.le_refl _) hb0
  have szw5 := hb0.size
  clear hb0
  replace o0 := Has.of_own o0
  have o0l := o0.lt
  have hal6 := (Below.refl w5.heap.size w5).alloc (Nat.le_refl _) (.cells #[.int .i64 p, .slice (some ⟨b0, 0, none⟩) n n] 45)
  replace y00 := keep_cell hal6 (Nat.le_refl _) y00
  replace y01 := keep_cell hal6 (Nat.le_refl _) y01
  replace iW := fun x => (iW x).below hal6 (iW x).lt
  replace jW := fun x => (jW x).below hal6 (jW x).lt
  replace zW0 := keep_cell hal6 (Nat.le_refl _) zW0
  replace zW1 := keep_cell hal6 (Nat.le_refl _) zW1
  replace o0 := o0.below hal6 o0.lt
  replace hB := below_next hB (Nat.le_refl _) hal6
  have z00 : (w5.alloc (.cells #[.int .i64 p, .slice (some ⟨b0, 0, none⟩) n n] 45)).cell? ⟨w5.heap.size, 0, none⟩ = some (.int .i64 p) := by simp [go_sem]
  have z01 : (w5.alloc (.cells #[.int .i64 p, .slice (some ⟨b0, 0, none⟩) n n] 45)).cell? ⟨w5.heap.size, 1, none⟩ = some (.slice (some ⟨b0, 0, none⟩) n n) := by simp [go_sem]
  have sz6 : (w5.alloc (.cells #[.int .i64 p, .slice (some ⟨b0, 0, none⟩) n n] 45)).heap.size = w5.heap.size + 1 := by simp
  clear hal6
  go_wp2_with fail
  refine (HIM.out _ _ _ o0.row).mono ?_
  rintro e w7 ⟨aoX, capX, eoX, ecapX, rfl, hWi, hWe, hWs, hbF⟩
  replace y00 := keep_cell hbF (Nat.le_refl _) y00
  replace y01 := keep_cell hbF (Nat.le_refl _) y01
  replace iW := fun x => (iW x).below hbF (iW x).lt
  replace jW := fun x => (jW x).below hbF (jW x).lt
  replace zW0 := keep_cell hbF (Nat.le_refl _) zW0
  replace zW1 := keep_cell hbF (Nat.le_refl _) zW1
  replace o0 := o0.below hbF o0.lt
  replace z00 := keep_cell hbF (Nat.le_refl _) z00
  replace z01 := keep_cell hbF (Nat.le_refl _) z01
  replace hB := below_next hB (Nat.le_refl _) hbF
  have szw7 := hbF.size
  obtain ⟨bX, cX, eX1, iX, eX2, jX, lX, kX, nX⟩ := pick2 hWi hWe (fun _ h => h.lt) (fun _ h => h.lt) (fun g g' _ _ h k e => ihas_ehas h (e ▸ k)) hWs
  clear hWi hWe hWs hbF
  have hal8 := (Below.refl w7.heap.size w7).alloc (Nat.le_refl _) (.cells #[.slice aoX M capX, .slice eoX N ecapX] 41)
  replace y00 := keep_cell hal8 (Nat.le_refl _) y00
  replace y01 := keep_cell hal8 (Nat.le_refl _) y01
  replace iW := fun x => (iW x).below hal8 (iW x).lt
  replace jW := fun x => (jW x).below hal8 (jW x).lt
  replace zW0 := keep_cell hal8 (Nat.le_refl _) zW0
  replace zW1 := keep_cell hal8 (Nat.le_refl _) zW1
  replace o0 := o0.below hal8 o0.lt
  replace z00 := keep_cell hal8 (Nat.le_refl _) z00
  replace z01 := keep_cell hal8 (Nat.le_refl _) z01
  replace iX := fun x => (iX x).below hal8 (iX x).lt
  replace jX := fun x => (jX x).below hal8 (jX x).lt
  replace hB := below_next hB (Nat.le_refl _) hal8
  have zX0 : (w7.alloc (.cells #[.slice aoX M capX, .slice eoX N ecapX] 41)).cell? ⟨w7.heap.size, 0, none⟩ = some (.slice aoX M capX) := by simp [go_sem]
  have zX1 : (w7.alloc (.cells #[.slice aoX M capX, .slice eoX N ecapX] 41)).cell? ⟨w7.heap.size, 1, none⟩ = some (.slice eoX N ecapX) := by simp [go_sem]
  have sz8 : (w7.alloc (.cells #[.slice aoX M capX, .slice eoX N ecapX] 41)).heap.size = w7.heap.size + 1 := by simp
  clear hal8
  go_wp2_with fail
  refine (eqHier_same _ _ M _ _ D _ _ N _ _ L H hM9 hN9 _ (irow_at eX1 iX) (irow_at eW1 iW) (erow_at eX2 jX) (erow_at eW2 jW)).mono ?_
  rintro e w9 ⟨rfl, hbq⟩
  replace y00 := keep_cell hbq (Nat.le_refl _) y00
  replace y01 := keep_cell hbq (Nat.le_refl _) y01
  replace iW := fun x => (iW x).below hbq (iW x).lt
  replace jW := fun x => (jW x).below hbq (jW x).lt
  replace zW0 := keep_cell hbq (Nat.le_refl _) zW0
  replace zW1 := keep_cell hbq (Nat.le_refl _) zW1
  replace o0 := o0.below hbq o0.lt
  replace z00 := keep_cell hbq (Nat.le_refl _) z00
  replace z01 := keep_cell hbq (Nat.le_refl _) z01
  replace iX := fun x => (iX x).below hbq (iX x).lt
  replace jX := fun x => (jX x).below hbq (jX x).lt
  replace zX0 := keep_cell hbq (Nat.le_refl _) zX0
  replace zX1 := keep_cell hbq (Nat.le_refl _) zX1
  replace hB := below_next hB (Nat.le_refl _) hbq
  have szw9 := hbq.size
  clear hbq
  go_wp2_with fail
  have hbd := (Below.refl w9.heap.size w9).drew
  replace y00 := keep_cell hbd (Nat.le_refl _) y00
  replace y01 := keep_cell hbd (Nat.le_refl _) y01
  replace iW := fun x => (iW x).below hbd (iW x).lt
  replace jW := fun x => (jW x).below hbd (jW x).lt
  replace zW0 := keep_cell hbd (Nat.le_refl _) zW0
  replace zW1 := keep_cell hbd (Nat.le_refl _) zW1
  replace o0 := o0.below hbd o0.lt
  replace z00 := keep_cell hbd (Nat.le_refl _) z00
  replace z01 := keep_cell hbd (Nat.le_refl _) z01
  replace iX := fun x => (iX x).below hbd (iX x).lt
  replace jX := fun x => (jX x).below hbd (jX x).lt
  replace zX0 := keep_cell hbd (Nat.le_refl _) zX0
  replace zX1 := keep_cell hbd (Nat.le_refl _) zX1
  replace hB := below_next hB (Nat.le_refl _) hbd
  have sz9 := hbd.size
  clear hbd
  go_region_held3 (fun w' => w'.cell? ⟨w5.heap.size, 0, none⟩ = some (.int .i64 p) ∧ w'.cell? ⟨w5.heap.size, 1, none⟩ = some (.slice (some ⟨b0, 0, none⟩) n n) ∧ w'.cell? ⟨w.heap.size, 0, none⟩ = some (.int .i64 p) ∧ w'.cell? ⟨w.heap.size, 1, none⟩ = some (.slice ao n cap))
    (first | (go_split_ands; refine ⟨?_, ?_, ?_, ?_⟩ <;> exact keep_cell hbq (Nat.le_refl _) (by assumption)) | (go_split_ands; refine ⟨?_, ?_, ?_, ?_⟩ <;> exact keep_cell hby0 (Nat.le_refl _) (by assumption)) | go_keep)
    (first | (go_at_call 24; refine (toGraph_any p ao n cap F T G hn _ (hr.below hB (Nat.le_refl _))).mono ?_; rintro e w10 ⟨by0, rfl, hly0, oy0, hby0⟩) | (go_at_call 27; refine (eqGraph_same p _ _ n n n F T G hn _ (o0.below hby0 o0.lt).row oy0.row).mono ?_; rintro e w11 ⟨rfl, hbq⟩))
  replace y00 := keep_cell hby0 (Nat.le_refl _) y00
  replace y01 := keep_cell hby0 (Nat.le_refl _) y01
  replace iW := fun x => (iW x).below hby0 (iW x).lt
  replace jW := fun x => (jW x).below hby0 (jW x).lt
  replace zW0 := keep_cell hby0 (Nat.le_refl _) zW0
  replace zW1 := keep_cell hby0 (Nat.le_refl _) zW1
  replace o0 := o0.below hby0 o0.lt
  replace z00 := keep_cell hby0 (Nat.le_refl _) z00
  replace z01 := keep_cell hby0 (Nat.le_refl _) z01
  replace iX := fun x => (iX x).below hby0 (iX x).lt
  replace jX := fun x => (jX x).below hby0 (jX x).lt
  replace zX0 := keep_cell hby0 (Nat.le_refl _) zX0
  replace zX1 := keep_cell hby0 (Nat.le_refl _) zX1
  replace hB := below_next hB (Nat.le_refl _) hby0
  have szw10 := hby0.size
  replace y00 := keep_cell hbq (Nat.le_refl _) y00
  replace y01 := keep_cell hbq (Nat.le_refl _) y01
  replace iW := fun x => (iW x).below hbq (iW x).lt
  replace jW := fun x => (jW x).below hbq (jW x).lt
  replace zW0 := keep_cell hbq (Nat.le_refl _) zW0
  replace zW1 := keep_cell hbq (Nat.le_refl _) zW1
  replace o0 := o0.below hbq o0.lt
  replace z00 := keep_cell hbq (Nat.le_refl _) z00
  replace z01 := keep_cell hbq (Nat.le_refl _) z01
  replace iX := fun x => (iX x).below hbq (iX x).lt
  replace jX := fun x => (jX x).below hbq (jX x).lt
  replace zX0 := keep_cell hbq (Nat.le_refl _) zX0
  replace zX1 := keep_cell hbq (Nat.le_refl _) zX1
  replace hB := below_next hB (Nat.le_refl _) hbq
  have szw11 := hbq.size
  clear hbq hby0 hly0 oy0
  go_wp2_with fail
  refine (markGraph_any p b0 n n (ar F T G) 1 (by omega) (by omega) hn _ (fun _ => o0) _ (fun _ => rfl)).mono ?_
  rintro e w12 ⟨rfl, _, hg⟩
  have hT := Turns.of_grown hg
  clear hg
  clear o0 z00 z01
  replace y00 := hT.cell (by simp; omega) y00
  replace y01 := hT.cell (by simp; omega) y01
  replace iW := fun x => (iW x).of_block (hT.block _ (iW x).lt (by simp; omega))
  replace jW := fun x => (jW x).of_block (hT.block _ (jW x).lt (by simp; omega))
  replace zW0 := hT.cell (by simp; omega) zW0
  replace zW1 := hT.cell (by simp; omega) zW1
  replace iX := fun x => (iX x).of_block (hT.block _ (iX x).lt (by simp; omega))
  replace jX := fun x => (jX x).of_block (hT.block _ (jX x).lt (by simp; omega))
  replace zX0 := hT.cell (by simp; omega) zX0
  replace zX1 := hT.cell (by simp; omega) zX1
  replace hB := hB.trans (hT.below (by omega) (by simp; omega))
  have sz12 := hT.size
  clear hT
  have hkk : ¬ 1 + 3 * (n : Int) < 0 := by omega
  go_wp2_with fail
  refine (eqHier_same _ _ M _ _ D _ _ N _ _ L H hM9 hN9 _ (irow_at eX1 iX) (irow_at eW1 iW) (erow_at eX2 jX) (erow_at eW2 jW)).mono ?_
  rintro e w13 ⟨rfl, hbq⟩
  replace y00 := keep_cell hbq (Nat.le_refl _) y00
  replace y01 := keep_cell hbq (Nat.le_refl _) y01
  replace iW := fun x => (iW x).below hbq (iW x).lt
  replace jW := fun x => (jW x).below hbq (jW x).lt
  replace zW0 := keep_cell hbq (Nat.le_refl _) zW0
  replace zW1 := keep_cell hbq (Nat.le_refl _) zW1
  replace iX := fun x => (iX x).below hbq (iX x).lt
  replace jX := fun x => (jX x).below hbq (jX x).lt
  replace zX0 := keep_cell hbq (Nat.le_refl _) zX0
  replace zX1 := keep_cell hbq (Nat.le_refl _) zX1
  replace hB := below_next hB (Nat.le_refl _) hbq
  have szw13 := hbq.size
  clear hbq
  go_wp2_with fail
  refine (markHier_any bX cX M N _ _ D (er L H) 1 (by omega) (by omega) hM9 hN9 _ iX jX nX _ eX1 _ eX2 (by omega) (by omega)).mono ?_
  rintro e w14 ⟨rfl, iY, jY, hT⟩
  clear iX jX
  replace y00 := hT.cell (by simp; omega) y00
  replace y01 := hT.cell (by simp; omega) y01
  replace iW := fun x => (iW x).of_block (hT.block _ (iW x).lt (by simp; omega))
  replace jW := fun x => (jW x).of_block (hT.block _ (jW x).lt (by simp; omega))
  replace zW0 := hT.cell (by simp; omega) zW0
  replace zW1 := hT.cell (by simp; omega) zW1
  replace zX0 := hT.cell (by simp; omega) zX0
  replace zX1 := hT.cell (by simp; omega) zX1
  replace hB := hB.trans (hT.below (by omega) (by simp; omega))
  have sz14 := hT.size
  clear hT
  go_wp2_with fail
  refine (heldHier_any bX cX M N _ _ 1 (by omega) (by omega) hM9 hN9 _ iY jY _ eX1 _ eX2).mono ?_
  rintro e w15 ⟨rfl, hbq⟩
  replace y00 := keep_cell hbq (Nat.le_refl _) y00
  replace y01 := keep_cell hbq (Nat.le_refl _) y01
  replace iW := fun x => (iW x).below hbq (iW x).lt
  replace jW := fun x => (jW x).below hbq (jW x).lt
  replace zW0 := keep_cell hbq (Nat.le_refl _) zW0
  replace zW1 := keep_cell hbq (Nat.le_refl _) zW1
  replace zX0 := keep_cell hbq (Nat.le_refl _) zX0
  replace zX1 := keep_cell hbq (Nat.le_refl _) zX1
  replace iY := fun x => (iY x).below hbq (iY x).lt
  replace jY := fun x => (jY x).below hbq (jY x).lt
  replace hB := below_next hB (Nat.le_refl _) hbq
  have szw15 := hbq.size
  clear hbq
  go_wp2_with fail
  refine (toGraph_any p ao n cap F T G hn _ (hr.below hB (Nat.le_refl _))).mono ?_
  rintro e w16 ⟨bt0, rfl, hlt0, ot0, hbt0⟩
  replace y00 := keep_cell hbt0 (Nat.le_refl _) y00
  replace y01 := keep_cell hbt0 (Nat.le_refl _) y01
  replace iW := fun x => (iW x).below hbt0 (iW x).lt
  replace jW := fun x => (jW x).below hbt0 (jW x).lt
  replace zW0 := keep_cell hbt0 (Nat.le_refl _) zW0
  replace zW1 := keep_cell hbt0 (Nat.le_refl _) zW1
  replace zX0 := keep_cell hbt0 (Nat.le_refl _) zX0
  replace zX1 := keep_cell hbt0 (Nat.le_refl _) zX1
  replace iY := fun x => (iY x).below hbt0 (iY x).lt
  replace jY := fun x => (jY x).below hbt0 (jY x).lt
  replace hB := below_next hB (Nat.le_refl _) hbt0
  have szw16 := hbt0.size
  go_wp2_with fail
  refine (HIM.out _ _ _ ot0.row).mono ?_
  rintro e w17 ⟨aoZ, capZ, eoZ, ecapZ, rfl, hWi, hWe, hWs, hbF⟩
  replace y00 := keep_cell hbF (Nat.le_refl _) y00
  replace y01 := keep_cell hbF (Nat.le_refl _) y01
  replace iW := fun x => (iW x).below hbF (iW x).lt
  replace jW := fun x => (jW x).below hbF (jW x).lt
  replace zW0 := keep_cell hbF (Nat.le_refl _) zW0
  replace zW1 := keep_cell hbF (Nat.le_refl _) zW1
  replace zX0 := keep_cell hbF (Nat.le_refl _) zX0
  replace zX1 := keep_cell hbF (Nat.le_refl _) zX1
  replace iY := fun x => (iY x).below hbF (iY x).lt
  replace jY := fun x => (jY x).below hbF (jY x).lt
  replace hB := below_next hB (Nat.le_refl _) hbF
  have szw17 := hbF.size
  obtain ⟨bZ, cZ, eZ1, iZ, eZ2, jZ, lZ, kZ, nZ⟩ := pick2 hWi hWe (fun _ h => h.lt) (fun _ h => h.lt) (fun g g' _ _ h k e => ihas_ehas h (e ▸ k)) hWs
  clear hWi hWe hWs hbF hlt0 ot0 hbt0 nZ
  have hal18 := (Below.refl w17.heap.size w17).alloc (Nat.le_refl _) (.cells #[.slice aoZ M capZ, .slice eoZ N ecapZ] 41)
  replace y00 := keep_cell hal18 (Nat.le_refl _) y00
  replace y01 := keep_cell hal18 (Nat.le_refl _) y01
  replace iW := fun x => (iW x).below hal18 (iW x).lt
  replace jW := fun x => (jW x).below hal18 (jW x).lt
  replace zW0 := keep_cell hal18 (Nat.le_refl _) zW0
  replace zW1 := keep_cell hal18 (Nat.le_refl _) zW1
  replace zX0 := keep_cell hal18 (Nat.le_refl _) zX0
  replace zX1 := keep_cell hal18 (Nat.le_refl _) zX1
  replace iY := fun x => (iY x).below hal18 (iY x).lt
  replace jY := fun x => (jY x).below hal18 (jY x).lt
  replace iZ := fun x => (iZ x).below hal18 (iZ x).lt
  replace jZ := fun x => (jZ x).below hal18 (jZ x).lt
  replace hB := below_next hB (Nat.le_refl _) hal18
  have zZ0 : (w17.alloc (.cells #[.slice aoZ M capZ, .slice eoZ N ecapZ] 41)).cell? ⟨w17.heap.size, 0, none⟩ = some (.slice aoZ M capZ) := by simp [go_sem]
  have zZ1 : (w17.alloc (.cells #[.slice aoZ M capZ, .slice eoZ N ecapZ] 41)).cell? ⟨w17.heap.size, 1, none⟩ = some (.slice eoZ N ecapZ) := by simp [go_sem]
  have sz18 : (w17.alloc (.cells #[.slice aoZ M capZ, .slice eoZ N ecapZ] 41)).heap.size = w17.heap.size + 1 := by simp
  clear hal18
  go_wp2_with fail
  refine (eqHier_same _ _ M _ _ D _ _ N _ _ L H hM9 hN9 _ (irow_at eZ1 iZ) (irow_at eW1 iW) (erow_at eZ2 jZ) (erow_at eW2 jW)).mono ?_
  rintro e w19 ⟨rfl, hbq⟩
  replace y00 := keep_cell hbq (Nat.le_refl _) y00
  replace y01 := keep_cell hbq (Nat.le_refl _) y01
  replace iW := fun x => (iW x).below hbq (iW x).lt
  replace jW := fun x => (jW x).below hbq (jW x).lt
  replace zW0 := keep_cell hbq (Nat.le_refl _) zW0
  replace zW1 := keep_cell hbq (Nat.le_refl _) zW1
  replace zX0 := keep_cell hbq (Nat.le_refl _) zX0
  replace zX1 := keep_cell hbq (Nat.le_refl _) zX1
  replace iY := fun x => (iY x).below hbq (iY x).lt
  replace jY := fun x => (jY x).below hbq (jY x).lt
  replace iZ := fun x => (iZ x).below hbq (iZ x).lt
  replace jZ := fun x => (jZ x).below hbq (jZ x).lt
  replace zZ0 := keep_cell hbq (Nat.le_refl _) zZ0
  replace zZ1 := keep_cell hbq (Nat.le_refl _) zZ1
  replace hB := below_next hB (Nat.le_refl _) hbq
  have szw19 := hbq.size
  clear hbq
  go_wp2_with fail
  refine (heldHier_any bX cX M N _ _ 1 (by omega) (by omega) hM9 hN9 _ iY jY _ eX1 _ eX2).mono ?_
  rintro e w20 ⟨rfl, hbq⟩
  replace y00 := keep_cell hbq (Nat.le_refl _) y00
  replace y01 := keep_cell hbq (Nat.le_refl _) y01
  replace iW := fun x => (iW x).below hbq (iW x).lt
  replace jW := fun x => (jW x).below hbq (jW x).lt
  replace zW0 := keep_cell hbq (Nat.le_refl _) zW0
  replace zW1 := keep_cell hbq (Nat.le_refl _) zW1
  replace zX0 := keep_cell hbq (Nat.le_refl _) zX0
  replace zX1 := keep_cell hbq (Nat.le_refl _) zX1
  replace iY := fun x => (iY x).below hbq (iY x).lt
  replace jY := fun x => (jY x).below hbq (jY x).lt
  replace iZ := fun x => (iZ x).below hbq (iZ x).lt
  replace jZ := fun x => (jZ x).below hbq (jZ x).lt
  replace zZ0 := keep_cell hbq (Nat.le_refl _) zZ0
  replace zZ1 := keep_cell hbq (Nat.le_refl _) zZ1
  replace hB := below_next hB (Nat.le_refl _) hbq
  have szw20 := hbq.size
  clear hbq
  go_wp2
  go_ret
  exact ⟨rfl, hB⟩

set_option maxRecDepth 100000 in
theorem lawNewHier_lifted (os : Os) (started : os.Started) (H : Type) (enc : TypeId × Value → H) :
    ReturnsInHanded {} Try.checked os 6 .any (Rows.fnExactNewHierSpec.pre6 enc Try.prog Try.f6 Rows.fnExactNewHierRow.domain false) (Rows.fnExactNewHierSpec.post enc Try.prog Try.f6 false true false false) := by
  refine returnsInHanded_of_change (C := Try.checked) Try.own started (by kernel_rfl) Try.func6
    (ChangeSpec.witness6 (enc := enc) (C := Try.checked) false ⟨#[], #[.agg #[.int .i64 0, .slice none 0 0]], []⟩ 8 (by kernel_rfl) (by kernel_rfl) (by kernel_rfl) (by kernel_rfl)) ?_
  intro W base args ds gs before hval0 hW hcnd _
  have hval : ∀ (j : Nat) t v, Try.f6.params[j]? = some t → args[j]? = some v → Value.okWide Try.prog W .any base t v := hval0
  have hW' := hW
  obtain ⟨p, q, hA0, hV, rfl, hfz, hnd⟩ := hW
  have hA : DataW.TrodAll enc Try.prog W 0 (fun _ => true) true Try.f6.params.toList args.toList ds p := hA0
  rw [Try.params6] at hA hval
  obtain ⟨v0, vs0, d0, ds0, p0, q0, hargs, rfl, rfl, h0, r0⟩ := trodAll_cons hA
  obtain ⟨rfl, rfl, rfl⟩ := trodAll_nil r0
  obtain rfl : args = #[v0] := by cases args; simp_all
  obtain ⟨rfl, rfl⟩ := trodVars_none hV
  have k0 := h0
  have lt0 : ∀ x ∈ p0, x.block < W.heap.size := by obtain ⟨m, hm⟩ := k0; exact DataW.trod_lt m _ _ _ hm
  obtain ⟨c00, c01, y00, y01, f0, rfl, _, _, hy00, hy01⟩ := open_agg2 Try.underlying38 (by kernel_rfl) Try.cellsLGraph (hval 0 38 v0 rfl rfl) h0
  obtain ⟨pl0, e00, _, _⟩ := DataW.trod_int Try.underlying2 hy00
  obtain ⟨ao0, n0, cap0, F0, T0, G0, e01, hn0, hr0⟩ := open_arcs hy01
  simp at e00 e01
  subst e00 e01
  clear hA0 hval0
  refine (lawNewHier_walk pl0 ao0 n0 cap0 F0 T0 G0 hn0 W hr0 ).mono fun e W' ⟨he, bel⟩ => ?_
  subst he
  exact ⟨_, rfl, _, _, _, [], _, [], hW', trodAll_mk1 (shut_bool Try.underlying4 _), (trodAll_cons_mk (Below.trod Try.laidOut (by kernel_rfl) (of_decide_eq_true (by kernel_rfl)) k0 bel lt0) trodAll_mk0), rfl, bel.frame _, fun h => by cases h⟩

theorem fnExactNewHier_holds : Rows.FnExactNewHierSaid :=
  OpenClaim.holds_of_wide 6 Try.f6 rfl rfl rfl rfl rfl rfl rfl ⟨rfl, rfl, rfl, rfl, rfl⟩ rfl rfl rfl rfl rfl (by kernel_rfl) Try.func6 (by kernel_rfl)
    (of_decide_eq_true (by kernel_rfl)) (by unfold Func.isWrapper; first | (rw [if_pos (by decide +kernel)]; kernel_rfl) | (rw [if_neg (by decide +kernel)]; exact ⟨rfl, rfl⟩))
    (fun os started H enc _ => lawNewHier_lifted os started H enc)
#print axioms fnExactNewHier_holds

end Go.Proofs.Ytganjllofgggjag
