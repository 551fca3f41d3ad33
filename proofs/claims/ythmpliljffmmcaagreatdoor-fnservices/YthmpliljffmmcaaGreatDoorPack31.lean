/-
  Helpers: SvK.
-/
import Derived.Test.YthmpliljffmmcaaGreatDoorPack1
import Derived.Deep.RegionHeld3
import Derived.Deep.RegionLaw
import Derived.Test.YthmpliljffmmcaaGreatDoorPack5
import Derived.Test.YthmpliljffmmcaaGreatDoorPack3
import Derived.Test.YthmpliljffmmcaaGreatDoorPack6
import Derived.Test.YthmpliljffmmcaaGreatDoorPack4
import Derived.Test.YthmpliljffmmcaaGreatDoorPack9
import Derived.Test.YthmpliljffmmcaaGreatDoorPack10
set_option linter.unusedVariables false
set_option linter.unusedSimpArgs false
namespace Go.Proofs.YthmpliljffmmcaaGreatDoor
section
open Go.RowKit Go.Maps Go.Deep Go.Joins
attribute [local go_sem ↓] Go.wp_at_zero Go.wp_at_succ
theorem own_room {w : World} {base g n cap : Nat} {t : TypeId} {size : Nat} {xs : List Value} (h : w.ownsRow base t size (.slice (some ⟨g, 0, none⟩) n cap) n xs) : n ≤ cap := by
  rcases h.2 with ⟨e, _⟩ | ⟨g', cap', cur, e, _, _, h2, _⟩
  · cases e
  · simp only [Value.slice.injEq, Option.some.injEq, Addr.mk.injEq, and_true, true_and] at e
    omega
def HAnsC (w w' : World) (e : Ending) (m : Nat) (D : Nat → Int) (k : Nat) (L H : Nat → Int) : Prop := ∃ ao cap eo ecap, e = .returned (.agg #[.slice ao m cap, .slice eo k ecap]) ∧ (0 < m → ∃ g, ao = some ⟨g, 0, none⟩ ∧ w.heap.size ≤ g ∧ IHas w' g m D) ∧ (0 < k → ∃ g, eo = some ⟨g, 0, none⟩ ∧ w.heap.size ≤ g ∧ EHas w' g k (er L H)) ∧ w.heap.size + 2 ≤ w'.heap.size ∧ Below w.heap.size w w' ∧ k ≤ ecap
def SvAnsC (w w' : World) (e : Ending) (p : Int) (n : Nat) (F T G : Nat → Int) (M : Nat) (D : Nat → Int) (N : Nat) (L H : Nat → Int) (ok : Bool) : Prop :=
  ∃ ao cap po pc eo ec d b c, e = .returned (.tuple #[.agg #[.int .i64 p, .slice ao n cap, .slice po M pc, .slice eo N ec, .int .i64 0, .slice none 0 0], .bool ok]) ∧ SvL w' ao po eo n M N d b c (ar F T G) D (er L H) ∧ ((w.heap.size ≤ d ∧ d < w'.heap.size) ∧ (w.heap.size ≤ b ∧ b < w'.heap.size) ∧ (w.heap.size ≤ c ∧ c < w'.heap.size) ∧ (0 < n → d ≠ b ∧ d ≠ c) ∧ b ≠ c) ∧ Below w.heap.size w w' ∧ N ≤ ec
theorem svAnsC_of {w w' : World} {p : Int} {n : Nat} {F T G : Nat → Int} {M : Nat} {D : Nat → Int} {N : Nat} {L H : Nat → Int} {ok : Bool} {ao po eo : Option Addr} {cap pc ec : Nat}
    (h : SvAns w w' (.returned (.tuple #[.agg #[.int .i64 p, .slice ao n cap, .slice po M pc, .slice eo N ec, .int .i64 0, .slice none 0 0], .bool ok])) p n F T G M D N L H ok) (hr : N ≤ ec) : SvAnsC w w' (.returned (.tuple #[.agg #[.int .i64 p, .slice ao n cap, .slice po M pc, .slice eo N ec, .int .i64 0, .slice none 0 0], .bool ok])) p n F T G M D N L H ok := by
  obtain ⟨ao', cap', po', pc', eo', ec', d, b, c, e, h1, h2, h3⟩ := h
  simp only [Ending.returned.injEq, Value.tuple.injEq, Array.mk.injEq, List.cons.injEq, Value.agg.injEq, Value.slice.injEq, true_and, and_true] at e
  obtain ⟨⟨rfl, rfl⟩, ⟨rfl, rfl⟩, rfl, rfl⟩ := e
  exact ⟨_, _, _, _, _, _, d, b, c, rfl, h1, h2, h3, hr⟩
set_option maxHeartbeats 1000000 in
theorem specNewHier_cap (p : Int) (ao : Option Addr) (n cap : Nat) (F T G : Nat → Int) (hn : n ≤ 1048576) (w : World) (hr : Row w ao n F T G) :
    Calls Tryz.prog 46 #[.agg #[.int .i64 p, .slice ao n cap]] w fun e w' => HAnsC w w' e (lenO p n F T G) (listO p n F T) (lenF p n F T G (lenO p n F T G) (listO p n F T)) (Lf (lstF p n F T (listO p n F T))) (Hf (lstF p n F T (listO p n F T))) := by
  rcases Bool.eq_false_or_eq_true (graphB p n F T G) with h | h
  rotate_left
  · have h1 : lenO p n F T G = 0 := by simp [lenO, h]
    have h2 : lenF p n F T G (lenO p n F T G) (listO p n F T) = 0 := by simp [lenF, ordB, h]
    rw [h2, h1]
    go_enter Tryz.func46, Tryz.ntmps46
    go_wp2_with (go_at_call 44; refine (specGraphOk_any p ao n cap F T G hn _ ((hr.alloc _).alloc _)).mono ?_; rintro e w1 ⟨rfl, hb1⟩; obtain ⟨⟨q0, q1⟩, ⟨q2, q3⟩, ⟨q4, q5⟩, q6⟩ := box22 (hb1.mono (by simp)))
    exact bodyPost_ret (v := .agg #[.slice none 0 0, .slice none 0 0]) (by simp [results, Tryz.results46, go_sem, q2, q3, q4, q5]) rfl ⟨_, _, _, _, rfl, fun h => by omega, fun h => by omega, by simp [World.setCell]; omega, ret_below (unbox2 hb1 (by simp; omega)) (by simp) _ _, Nat.le_refl _⟩
  have hpp : 1 ≤ p ∧ p ≤ 24 := by simpa [inB] using graphB_p h
  obtain ⟨pn, rfl⟩ : ∃ pn : Nat, p = (pn : Int) := ⟨p.toNat, by omega⟩
  have hL : lenO pn n F T G = pn := by simp [lenO, h]
  have hok := order_ok h
  rw [hL] at hok ⊢
  have hLF : lenF pn n F T G pn (listO pn n F T) = (allS (nbA F T n) (listO pn n F T) pn pn).length := by simp [lenF, hok, lstF]
  have hS : lstF pn n F T (listO pn n F T) = allS (nbA F T n) (listO pn n F T) pn pn := by simp [lstF]
  rw [hLF, hS]
  obtain ⟨⟨hp1, hp2⟩, hn1, hF, hT, hFT⟩ := ok_arcs h
  have he := order_each h
  have hA := fun ao' cap' W hr' => l3Order_any pn ao' n cap' F T G hp1 hp2 hn1 hF hT hFT W hr'
  have hB := fun ao' cap' po' pcap' W hr' hp' => l4Fill_any pn ao' n cap' F T G po' pcap' (listO pn n F T) hp1 hp2 hn1 hF hT hFT he W hr' hp'
  have hD : (run3 pn (nbA F T n) pn).2.2 = listO pn n F T := by simp [listO]
  rw [hD] at hA
  generalize allS (nbA F T n) (listO pn n F T) pn pn = l at hB ⊢
  generalize listO pn n F T = D at hA hB ⊢
  have HO : Hid (∀ ao' cap' W, Row W ao' n F T G → Calls Tryz.prog 75 #[.agg #[.int .i64 (pn : Int), .slice ao' n cap']] W fun e w' => ∃ g c, e = .returned (.slice (some ⟨g, 0, none⟩) pn c) ∧ W.heap.size ≤ g ∧ IHas w' g pn D ∧ Below W.heap.size W w' ∧ pn ≤ c) := hA
  have HF : Hid (∀ ao' cap' po' pcap' W, Row W ao' n F T G → IRow W po' pn D → Calls Tryz.prog 62 #[.agg #[.int .i64 (pn : Int), .slice ao' n cap'], .slice po' pn pcap'] W fun e w' => ∃ g c, e = .returned (.slice (some ⟨g, 0, none⟩) l.length c) ∧ W.heap.size ≤ g ∧ EOwn w' W.heap.size g c l ∧ Below W.heap.size W w') := hB
  clear hA hB hok hLF hS hF hT hFT he hD hL
  go_enter Tryz.func46, Tryz.ntmps46
  go_wp2_with fail
  refine (specGraphOk_any pn ao n cap F T G hn _ ((hr.alloc _).alloc _)).mono ?_
  rw [h]
  rintro e w1 ⟨rfl, hb1⟩
  have hA1 := hb1.mono (B' := w.heap.size + 2) (by simp)
  obtain ⟨⟨q0, q1⟩, ⟨q2, q3⟩, ⟨q4, q5⟩, q6⟩ := box22 hA1
  clear hb1
  go_wp2_with fail
  refine (HO.out _ _ _ (((hr.alloc _).alloc _).below hA1 (by simp))).mono ?_
  rintro e w2 ⟨gD, capD, rfl, hgD, hD, hb2, _⟩
  have hA2 := below_next hA1 (by simp) hb2
  clear q0 q1 q2 q3 q4 q5 q6
  obtain ⟨⟨q0, q1⟩, ⟨q2, q3⟩, ⟨q4, q5⟩, q6⟩ := box22 hA2
  go_wp2_with fail
  refine (HF.out _ _ _ _ _ (((hr.alloc _).alloc _).below hA2 (by simp)) hD.row).mono ?_
  rintro e w3 ⟨gE, capE, rfl, hgE, hE, hb3⟩
  have hA3 := below_next hA2 (by simp) hb3
  clear q0 q1 q2 q3 q4 q5 q6
  have s1 := hA1.size
  have s2 := hA2.size
  simp only [World.size_alloc] at s1 s2
  obtain ⟨⟨q0, q1⟩, ⟨q2, q3⟩, ⟨q4, q5⟩, q6⟩ := box22 hA3
  go_wp2
  refine bodyPost_ret (v := .agg #[.slice (some ⟨gD, 0, none⟩) pn capD, .slice (some ⟨gE, 0, none⟩) l.length capE]) (by simp [results, Tryz.results46, go_sem, q2, q3, q4, q5]) rfl ⟨_, _, _, _, rfl, fun _ => ⟨gD, rfl, by omega, (hD.below hb3 hD.lt).of_block (ret_block _ _ (by omega))⟩, fun _ => ⟨gE, rfl, by omega, hE.has.of_block (ret_block _ _ (by omega))⟩, by simp [World.setCell]; omega, ret_below (unbox2 hA3 (by simp)) (by simp) _ _, own_room hE⟩
set_option maxRecDepth 100000 in
set_option maxHeartbeats 4000000 in
theorem specNewService_cap (p : Int) (ao : Option Addr) (n cap : Nat) (F T G : Nat → Int) (hn : n ≤ 1048576) (w : World) (hr : Row w ao n F T G)
    (p' : Int) (n' M N : Nat) (D L H : Nat → Int) (ok : Bool) (hres : IsSv p n F T G p' n' M D N L H ok) :
    Calls Tryz.prog 17 #[.agg #[.int .i64 p, .slice ao n cap]] w fun e w' => SvAnsC w w' e p' n' F T G M D N L H ok := by
  have hA : Below w.heap.size w ((w.alloc (.cells #[.int .i64 p, .slice ao n cap] 26)).alloc (.cells #[.int .i64 0, .slice none 0 0, .slice none 0 0, .slice none 0 0, .int .i64 0, .slice none 0 0] 33)) := ((Below.refl _ _).alloc nl _).alloc (by simp) _
  have vA := (gb2_new w p (.slice ao n cap) 26).alloc (.cells #[.int .i64 0, .slice none 0 0, .slice none 0 0, .slice none 0 0, .int .i64 0, .slice none 0 0] 33)
  have vR := sv6_new (w.alloc (.cells #[.int .i64 p, .slice ao n cap] 26)) 0 (.slice none 0 0) (.slice none 0 0) (.slice none 0 0) 0 (.slice none 0 0) 33
  simp only [World.size_alloc] at vR
  have hsz : ((w.alloc (.cells #[.int .i64 p, .slice ao n cap] 26)).alloc (.cells #[.int .i64 0, .slice none 0 0, .slice none 0 0, .slice none 0 0, .int .i64 0, .slice none 0 0] 33)).heap.size = w.heap.size + 2 := by simp
  have hrw := hr.below hA nl
  have HGO := fun W h => specGraphOk_any p ao n cap F T G hn W h
  rcases hres with ⟨hg, ep, en, rfl, rfl, rfl, rfl, rfl, rfl⟩ | ⟨hg, rfl, rfl, rfl, rfl, rfl⟩
  rotate_left
  · rw [hg] at HGO
    go_enter Tryz.func17, Tryz.ntmps17
    go_wp2_with fail
    generalize ((w.alloc (.cells #[.int .i64 p, .slice ao n cap] 26)).alloc (.cells #[.int .i64 0, .slice none 0 0, .slice none 0 0, .slice none 0 0, .int .i64 0, .slice none 0 0] 33)) = W at hA vA vR hrw hsz ⊢
    refine (HGO _ hrw).mono ?_
    rintro e w1 ⟨rfl, hb1⟩
    replace vR := vR.next hb1
    have hs1 := hb1.size
    have hA1 := below_next hA nl hb1
    have r0 : w1.cell? ⟨w.heap.size + 1, 0, none⟩ = some (.int .i64 0) := vR.cell (j := 0) (by omega)
    have r1 : w1.cell? ⟨w.heap.size + 1, 1, none⟩ = some (.slice none 0 0) := vR.cell (j := 1) (by omega)
    have r2 : w1.cell? ⟨w.heap.size + 1, 2, none⟩ = some (.slice none 0 0) := vR.cell (j := 2) (by omega)
    have r3 : w1.cell? ⟨w.heap.size + 1, 3, none⟩ = some (.slice none 0 0) := vR.cell (j := 3) (by omega)
    have r4 : w1.cell? ⟨w.heap.size + 1, 4, none⟩ = some (.int .i64 0) := vR.cell (j := 4) (by omega)
    have r5 : w1.cell? ⟨w.heap.size + 1, 5, none⟩ = some (.slice none 0 0) := vR.cell (j := 5) (by omega)
    have zz := fun j => vR.frozen j
    have u := (((((vR.set 0 (.int .i64 0)).set 1 (.slice none 0 0)).set 2 (.slice none 0 0)).set 3 (.slice none 0 0)).set 4 (.int .i64 0)).set 5 (.slice none 0 0)
    obtain ⟨q0, q1, q2, q3, q4, q5⟩ := u.c6
    simp at q0 q1 q2 q3 q4 q5
    go_wp2
    exact bodyPost_ret (v := .tuple #[.agg #[.int .i64 0, .slice none 0 0, .slice none 0 0, .slice none 0 0, .int .i64 0, .slice none 0 0], .bool false]) (by simp [results, Tryz.results17, go_sem, q0, q1, q2, q3, q4, q5]) rfl (svAnsC_of (svAns_zero (by simp [World.setCell]; omega) ((((((hA1.setCell (p := ⟨w.heap.size + 1, 0, none⟩) (by simp) _).setCell (p := ⟨w.heap.size + 1, 1, none⟩) (by simp) _).setCell (p := ⟨w.heap.size + 1, 2, none⟩) (by simp) _).setCell (p := ⟨w.heap.size + 1, 3, none⟩) (by simp) _).setCell (p := ⟨w.heap.size + 1, 4, none⟩) (by simp) _).setCell (p := ⟨w.heap.size + 1, 5, none⟩) (by simp) _)) nl)
  replace ep := ep.symm
  replace en := en.symm
  subst ep en
  rw [hg] at HGO
  have HHI : Hid (∀ W, Row W ao n F T G → Calls Tryz.prog 46 #[.agg #[.int .i64 p, .slice ao n cap]] W fun e w' => HAnsC W w' e (lenO p n F T G) (listO p n F T) (lenF p n F T G (lenO p n F T G) (listO p n F T)) (Lf (lstF p n F T (listO p n F T))) (Hf (lstF p n F T (listO p n F T)))) := fun W h => specNewHier_cap p ao n cap F T G hn W h
  generalize lenF p n F T G (lenO p n F T G) (listO p n F T) = N at HHI ⊢
  generalize Lf (lstF p n F T (listO p n F T)) = L at HHI ⊢
  generalize Hf (lstF p n F T (listO p n F T)) = H at HHI ⊢
  generalize lenO p n F T G = M at HHI ⊢
  generalize listO p n F T = D at HHI ⊢
  go_enter Tryz.func17, Tryz.ntmps17
  go_wp2_with fail
  generalize ((w.alloc (.cells #[.int .i64 p, .slice ao n cap] 26)).alloc (.cells #[.int .i64 0, .slice none 0 0, .slice none 0 0, .slice none 0 0, .int .i64 0, .slice none 0 0] 33)) = W at hA vA vR hrw hsz ⊢
  refine (HGO _ hrw).mono ?_
  rintro e w1 ⟨rfl, hb1⟩
  have hs1 := hb1.size
  have hA1 := (below_next hA nl hb1).drew
  replace vA := vA.next hb1
  have x0 : w1.cell? ⟨w.heap.size, 0, none⟩ = some (.int .i64 p) := vA.cell (j := 0) (by omega)
  have x1 : w1.cell? ⟨w.heap.size, 1, none⟩ = some (.slice ao n cap) := vA.cell (j := 1) (by omega)
  replace vA := vA.next (Below.refl w1.heap.size w1).drew
  replace vR := (vR.next hb1).next (Below.refl w1.heap.size w1).drew
  replace hrw := (hrw.below hb1 nl).below (Below.refl w1.heap.size w1).drew nl
  have hsd : w.heap.size + 2 ≤ w1.drew.heap.size := by show w.heap.size + 2 ≤ w1.heap.size; omega
  clear hb1 hA HGO hsz hs1
  go_wp2_with fail
  go_region_law (first
    | (go_simp; go_at_call 45; refine (l1Copy_any p ao n cap F T G hn _ hrw).mono ?_; rintro e w2 ⟨gN, capN, rfl, hgN, hlN, hO, hb2⟩; have vA2 := vA.next hb2; have vR2 := vR.next hb2; have hr2 := hrw.below hb2 nl; have hs2 := hb2.size; have y0 : w2.cell? ⟨w.heap.size, 0, none⟩ = some (.int .i64 p) := vA2.cell (j := 0) (by omega); have y1 : w2.cell? ⟨w.heap.size, 1, none⟩ = some (.slice ao n cap) := vA2.cell (j := 1) (by omega))
    | (go_simp; go_at_call 46; refine (HHI.out _ hr2).mono ?_; rintro e w3 ⟨po, pc, eo, ec, rfl, hI, hE, hs3, hb3, hroom⟩; have vR3 := vR2.next hb3; have r0 : w3.cell? ⟨w.heap.size + 1, 0, none⟩ = some (.int .i64 0) := vR3.cell (j := 0) (by omega); have r1 : w3.cell? ⟨w.heap.size + 1, 1, none⟩ = some (.slice none 0 0) := vR3.cell (j := 1) (by omega); have r2 : w3.cell? ⟨w.heap.size + 1, 2, none⟩ = some (.slice none 0 0) := vR3.cell (j := 2) (by omega); have r3 : w3.cell? ⟨w.heap.size + 1, 3, none⟩ = some (.slice none 0 0) := vR3.cell (j := 3) (by omega); have r4 : w3.cell? ⟨w.heap.size + 1, 4, none⟩ = some (.int .i64 0) := vR3.cell (j := 4) (by omega); have r5 : w3.cell? ⟨w.heap.size + 1, 5, none⟩ = some (.slice none 0 0) := vR3.cell (j := 5) (by omega); have zz := fun j => vR3.frozen j))
  all_goals
    have u := (((((vR3.set 0 (.int .i64 p)).set 1 (.slice (some ⟨gN, 0, none⟩) n capN)).set 2 (.slice po M pc)).set 3 (.slice eo N ec)).set 4 (.int .i64 0)).set 5 (.slice none 0 0)
    obtain ⟨q0, q1, q2, q3, q4, q5⟩ := u.c6
    simp at q0 q1 q2 q3 q4 q5
    have hA3 := below_next (below_next hA1 nl hb2) nl hb3
    have keep : ∀ x, x ≠ w.heap.size + 1 → ((((((w3.setCell ⟨w.heap.size + 1, 0, none⟩ (.int .i64 p)).setCell ⟨w.heap.size + 1, 1, none⟩ (.slice (some ⟨gN, 0, none⟩) n capN)).setCell ⟨w.heap.size + 1, 2, none⟩ (.slice po M pc)).setCell ⟨w.heap.size + 1, 3, none⟩ (.slice eo N ec)).setCell ⟨w.heap.size + 1, 4, none⟩ (.int .i64 0)).setCell ⟨w.heap.size + 1, 5, none⟩ (.slice none 0 0)).heap[x]? = w3.heap[x]? := fun x hx => by
      rw [Below.heap_setCell _ _ _ _ (by simpa using hx), Below.heap_setCell _ _ _ _ (by simpa using hx), Below.heap_setCell _ _ _ _ (by simpa using hx), Below.heap_setCell _ _ _ _ (by simpa using hx), Below.heap_setCell _ _ _ _ (by simpa using hx), Below.heap_setCell _ _ _ _ (by simpa using hx)]
    go_wp2
    refine bodyPost_ret (v := .tuple #[.agg #[.int .i64 p, .slice (some ⟨gN, 0, none⟩) n capN, .slice po M pc, .slice eo N ec, .int .i64 0, .slice none 0 0], .bool true]) (by simp [results, Tryz.results17, go_sem, q0, q1, q2, q3, q4, q5]) rfl (svAnsC_of (svAns_of (fun h => ?_) (fun h => ?_) (fun h => ?_) (by simp [World.setCell]; omega) ((((((hA3.setCell (p := ⟨w.heap.size + 1, 0, none⟩) (by simp) _).setCell (p := ⟨w.heap.size + 1, 1, none⟩) (by simp) _).setCell (p := ⟨w.heap.size + 1, 2, none⟩) (by simp) _).setCell (p := ⟨w.heap.size + 1, 3, none⟩) (by simp) _).setCell (p := ⟨w.heap.size + 1, 4, none⟩) (by simp) _).setCell (p := ⟨w.heap.size + 1, 5, none⟩) (by simp) _)) hroom)
    · have hH := hO h
      exact ⟨gN, rfl, by omega, (hH.below hb3 hH.lt).of_block (keep gN (by omega))⟩
    · obtain ⟨g, e, hg1, hH⟩ := hI h
      exact ⟨g, e, by omega, hH.of_block (keep g (by omega))⟩
    · obtain ⟨g, e, hg1, hH⟩ := hE h
      exact ⟨g, e, by omega, hH.of_block (keep g (by omega))⟩
end
end Go.Proofs.YthmpliljffmmcaaGreatDoor
