/-
  Helpers: SvN, SvR, GenL, CloI, CloE.
-/
import Derived.Test.YthmpliljffmmcaaGreatDoorPack1
import Derived.Test.YthmpliljffmmcaaGreatDoorPack5
import Derived.Test.YthmpliljffmmcaaGreatDoorPack6
import Derived.Test.YthmpliljffmmcaaGreatDoorPack9
import Derived.Test.YthmpliljffmmcaaGreatDoorPack3
import Derived.Deep.RegionHeld3
import Derived.Deep.RegionLaw
import Derived.Deep.QuietTactic
import Derived.BigQuiet
import Derived.Deep.AppendLies
import Derived.Laws.OwnMore
set_option linter.unusedVariables false
set_option linter.unusedSimpArgs false
namespace Go.Proofs.YthmpliljffmmcaaGreatDoor
section
open Go.RowKit Go.Maps
attribute [local go_sem ↓] Go.wp_at_zero Go.wp_at_succ
theorem empty_ownsC (w : World) : (w.alloc (.cells #[] 67)).ownsRow w.heap.size 67 3 (.slice (some ⟨w.heap.size, 0, none⟩) 0 0) 0 [] := by
  have := World.ownsRow_lit (base := w.heap.size) (e := 67) (size := 3) w #[] 0 (by simp) (by simp) (by simp)
  simpa using this
theorem eql_some (a : Addr) (n cap : Nat) (w : World) : (binOp BinOp.eql 24 (.slice (some a) n cap) (.slice none 0 0)).run Tryz.prog w = .ok (.bool false) w := by kernel_rfl
theorem eql_none (n cap : Nat) (w : World) : (binOp BinOp.eql 24 (.slice none n cap) (.slice none 0 0)).run Tryz.prog w = .ok (.bool true) w := by kernel_rfl
set_option maxRecDepth 100000 in
set_option maxHeartbeats 2000000 in
theorem clone_pos (b o n cap : Nat) (F T G : Nat → Int) (hn : n ≤ 1048576) (hpos : 0 < n) (w : World) (hr : Row w (some ⟨b, o, none⟩) n F T G) :
    Calls Tryz.prog 73 #[.slice (some ⟨b, o, none⟩) n cap] w fun e w' => ∃ ao' cap', e = .returned (.slice ao' n cap') ∧ (0 < n → ∃ g, ao' = some ⟨g, 0, none⟩ ∧ w.heap.size ≤ g ∧ Has w' g n (ar F T G)) ∧ Below w.heap.size w w' := by
  obtain ⟨i0, hi0, hz0, hz1, hz2⟩ := info_parts Tryz.infoArc
  have hnil := fun W => eql_some ⟨b, o, none⟩ n cap W
  go_enter Tryz.func73, Tryz.ntmps73
  go_wp2_with (at_builtin; refine wpList_append_lies _ rfl _ _ _ rfl w.heap.size 67 i0 _ 3 24 Tryz.underlying24 hi0 hz0 hz1 hz2 rfl (by omega) (.slice (some ⟨w.heap.size, 0, none⟩) 0 0) 0 [] rfl (empty_ownsC w) ⟨b, o, none⟩ n cap (cellsOf (ar F T G) (n * 3)) rfl (by simp [cellsOf]) (Row.news (hr.alloc _)) (cellsOf_one _ _) hpos (by unfold maxLen; omega) (by omega) (by simp) (w.heap.size + 1) (by simp) ?_; intro g cap' w1 hown1 hgrow hat hlt)
  simp only [Nat.zero_add, List.nil_append] at hown1 ⊢
  obtain ⟨hhas, hg2⟩ := has_of_owns hown1 rfl
  go_wp2
  go_ret
  refine ⟨_, _, rfl, fun _ => ⟨g, rfl, hg2, hhas⟩, ?_⟩
  refine Below.grown ((Below.refl _ _).alloc nl _) hgrow (by simp) ?_
  intro k hk
  simp [Value.ownBlock] at hk
  omega
set_option maxRecDepth 100000 in
set_option maxHeartbeats 2000000 in
theorem clone_zero (ao : Option Addr) (cap : Nat) (F T G : Nat → Int) (w : World) :
    Calls Tryz.prog 73 #[.slice ao 0 cap] w fun e w' => ∃ ao' cap', e = .returned (.slice ao' 0 cap') ∧ (0 < 0 → ∃ g, ao' = some ⟨g, 0, none⟩ ∧ w.heap.size ≤ g ∧ Has w' g 0 (ar F T G)) ∧ Below w.heap.size w w' := by
  have hsc : ∀ (a : Addr) (w : World), (storeCells a []).run Tryz.prog w = .ok () w := fun _ _ => rfl
  cases ao with
  | none =>
    have hnil := fun W => eql_none 0 cap W
    go_enter Tryz.func73, Tryz.ntmps73
    go_wp2
    go_ret
    exact ⟨_, _, rfl, fun h => by omega, by first | exact Below.refl _ _ | exact (Below.refl _ _).alloc nl _⟩
  | some a =>
    have hnil := fun W => eql_some a 0 cap W
    go_enter Tryz.func73, Tryz.ntmps73
    go_wp2
    go_ret
    exact ⟨_, _, rfl, fun h => by omega, by first | exact Below.refl _ _ | exact (Below.refl _ _).alloc nl _⟩
theorem clone_any (ao : Option Addr) (n cap : Nat) (F T G : Nat → Int) (hn : n ≤ 1048576) (w : World) (hr : Row w ao n F T G) :
    Calls Tryz.prog 73 #[.slice ao n cap] w fun e w' => ∃ ao' cap', e = .returned (.slice ao' n cap') ∧ (0 < n → ∃ g, ao' = some ⟨g, 0, none⟩ ∧ w.heap.size ≤ g ∧ Has w' g n (ar F T G)) ∧ Below w.heap.size w w' := by
  by_cases h : 0 < n
  · obtain ⟨b, o, e, _⟩ := hr 0 h
    subst e
    exact clone_pos b o n cap F T G hn h w hr
  · obtain rfl : n = 0 := by omega
    exact clone_zero ao cap F T G w
def gb2 (p : Int) (s : Value) (j : Nat) : Value := if j = 0 then .int .i64 p else s
theorem gb2_new (w : World) (p : Int) (s : Value) (t : TypeId) : VHas (w.alloc (.cells #[.int .i64 p, s] t)) w.heap.size t 2 (gb2 p s) :=
  ⟨_, Go.Deep.blk_alloc_new _ _, by simp, fun j hj => by
    have : j = 0 ∨ j = 1 := by omega
    rcases this with rfl | rfl <;> rfl⟩
set_option maxRecDepth 100000 in
set_option maxHeartbeats 2000000 in
theorem copyOfGraph_any (p : Int) (ao : Option Addr) (n cap : Nat) (F T G : Nat → Int) (hn : n ≤ 1048576) (w : World) (hr : Row w ao n F T G) :
    Calls Tryz.prog 42 #[.agg #[.int .i64 p, .slice ao n cap]] w fun e w' => ∃ ao' cap', e = .returned (.agg #[.int .i64 p, .slice ao' n cap']) ∧ (0 < n → ∃ g, ao' = some ⟨g, 0, none⟩ ∧ w.heap.size ≤ g ∧ Has w' g n (ar F T G)) ∧ Below w.heap.size w w' := by
  have hA : Below w.heap.size w ((w.alloc (.cells #[.int .i64 p, .slice ao n cap] 26)).alloc (.cells #[.int .i64 0, .slice none 0 0] 26)) := ((Below.refl _ _).alloc nl _).alloc (by simp) _
  have vA := (gb2_new w p (.slice ao n cap) 26).alloc (.cells #[.int .i64 0, .slice none 0 0] 26)
  have vR := gb2_new (w.alloc (.cells #[.int .i64 p, .slice ao n cap] 26)) 0 (.slice none 0 0) 26
  simp only [World.size_alloc] at vR
  have hsz : ((w.alloc (.cells #[.int .i64 p, .slice ao n cap] 26)).alloc (.cells #[.int .i64 0, .slice none 0 0] 26)).heap.size = w.heap.size + 2 := by simp
  have hrw := hr.below hA nl
  go_enter Tryz.func42, Tryz.ntmps42
  go_wp2_with fail
  generalize ((w.alloc (.cells #[.int .i64 p, .slice ao n cap] 26)).alloc (.cells #[.int .i64 0, .slice none 0 0] 26)) = W at hA vA vR hrw hsz ⊢
  have x0 : W.cell? ⟨w.heap.size, 0, none⟩ = some (.int .i64 p) := vA.cell (j := 0) (by omega)
  have x1 : W.cell? ⟨w.heap.size, 1, none⟩ = some (.slice ao n cap) := vA.cell (j := 1) (by omega)
  have hrd := hrw.below (Below.refl W.heap.size W).drew nl
  have vAd := vA.next (Below.refl W.heap.size W).drew
  have vRd := vR.next (Below.refl W.heap.size W).drew
  have hAd := hA.drew
  have hszd : W.drew.heap.size = w.heap.size + 2 := hsz
  clear vA vR hA hrw
  go_region_law (first | (go_simp; go_at_call 73; refine (clone_any ao n cap F T G hn _ hrd).mono ?_; rintro e w1 ⟨ao', cap', rfl, hO, hb1⟩; have vA1 := vAd.next hb1; have vR1 := vRd.next hb1; have y0 : w1.cell? ⟨w.heap.size, 0, none⟩ = some (.int .i64 p) := vA1.cell (j := 0) (by omega); have y1 : w1.cell? ⟨w.heap.size, 1, none⟩ = some (.slice ao n cap) := vA1.cell (j := 1) (by omega); have r0 : w1.cell? ⟨w.heap.size + 1, 0, none⟩ = some (.int .i64 0) := vR1.cell (j := 0) (by omega); have r1 : w1.cell? ⟨w.heap.size + 1, 1, none⟩ = some (.slice none 0 0) := vR1.cell (j := 1) (by omega); obtain ⟨z0, z1⟩ := vR1.z2))
  all_goals
    have u := ((vR1.set 0 (.int .i64 p)).set 1 (.slice ao' n cap'))
    obtain ⟨q0, q1⟩ := u.c2
    simp at q0 q1
    go_wp2
    refine bodyPost_ret (v := .agg #[.int .i64 p, .slice ao' n cap']) (by simp [results, Tryz.results42, go_sem, q0, q1]) rfl ⟨ao', cap', rfl, fun h => ?_, ?_⟩
    · obtain ⟨g, e, hg, hH⟩ := hO h
      exact ⟨g, e, by omega, (hH.of_block (Below.heap_setCell _ _ _ _ (by simp; omega))).of_block (Below.heap_setCell _ _ _ _ (by simp; omega))⟩
    · exact ((below_next hAd nl hb1).setCell (p := ⟨w.heap.size + 1, 0, none⟩) (by simp) _).setCell (p := ⟨w.heap.size + 1, 1, none⟩) (by simp) _
def IsSv (p : Int) (n : Nat) (F T G : Nat → Int) (p' : Int) (n' M : Nat) (D : Nat → Int) (N : Nat) (L H : Nat → Int) (ok : Bool) : Prop :=
  (graphB p n F T G = true ∧ p' = p ∧ n' = n ∧ M = lenO p n F T G ∧ D = listO p n F T ∧ N = lenF p n F T G (lenO p n F T G) (listO p n F T) ∧ L = Lf (lstF p n F T (listO p n F T)) ∧ H = Hf (lstF p n F T (listO p n F T)) ∧ ok = true) ∨
  (graphB p n F T G = false ∧ p' = 0 ∧ n' = 0 ∧ M = 0 ∧ N = 0 ∧ ok = false)
set_option maxRecDepth 100000 in
set_option maxHeartbeats 4000000 in
theorem specNewService_any (p : Int) (ao : Option Addr) (n cap : Nat) (F T G : Nat → Int) (hn : n ≤ 1048576) (w : World) (hr : Row w ao n F T G)
    (p' : Int) (n' M N : Nat) (D L H : Nat → Int) (ok : Bool) (hres : IsSv p n F T G p' n' M D N L H ok) :
    Calls Tryz.prog 17 #[.agg #[.int .i64 p, .slice ao n cap]] w fun e w' => SvAns w w' e p' n' F T G M D N L H ok := by
  have hA : Below w.heap.size w ((w.alloc (.cells #[.int .i64 p, .slice ao n cap] 26)).alloc (.cells #[.int .i64 0, .slice none 0 0, .slice none 0 0, .slice none 0 0, .int .i64 0, .slice none 0 0] 33)) := ((Below.refl _ _).alloc nl _).alloc (by simp) _
  have vA := (gb2_new w p (.slice ao n cap) 26).alloc (.cells #[.int .i64 0, .slice none 0 0, .slice none 0 0, .slice none 0 0, .int .i64 0, .slice none 0 0] 33)
  have vR := sv6_new (w.alloc (.cells #[.int .i64 p, .slice ao n cap] 26)) 0 (.slice none 0 0) (.slice none 0 0) (.slice none 0 0) 0 (.slice none 0 0) 33
  simp only [World.size_alloc] at vR
  have hsz : ((w.alloc (.cells #[.int .i64 p, .slice ao n cap] 26)).alloc (.cells #[.int .i64 0, .slice none 0 0, .slice none 0 0, .slice none 0 0, .int .i64 0, .slice none 0 0] 33)).heap.size = w.heap.size + 2 := by simp
  have hrw := hr.below hA nl
  have HGO := fun W h => specGraphOk_any p ao n cap F T G hn W h
  rcases hres with ⟨hg, ep, en, rfl, rfl, rfl, rfl, rfl, rfl⟩ | ⟨hg, rfl, rfl, rfl, rfl, rfl⟩
  rotate_left
  · rw [hg] at HGO
    go_enter Tryz.func17, Tryz.ntmps17
    go_wp2_with fail
    generalize ((w.alloc (.cells #[.int .i64 p, .slice ao n cap] 26)).alloc (.cells #[.int .i64 0, .slice none 0 0, .slice none 0 0, .slice none 0 0, .int .i64 0, .slice none 0 0] 33)) = W at hA vA vR hrw hsz ⊢
    refine (HGO _ hrw).mono ?_
    rintro e w1 ⟨rfl, hb1⟩
    replace vR := vR.next hb1
    have hs1 := hb1.size
    have hA1 := below_next hA nl hb1
    have r0 : w1.cell? ⟨w.heap.size + 1, 0, none⟩ = some (.int .i64 0) := vR.cell (j := 0) (by omega)
    have r1 : w1.cell? ⟨w.heap.size + 1, 1, none⟩ = some (.slice none 0 0) := vR.cell (j := 1) (by omega)
    have r2 : w1.cell? ⟨w.heap.size + 1, 2, none⟩ = some (.slice none 0 0) := vR.cell (j := 2) (by omega)
    have r3 : w1.cell? ⟨w.heap.size + 1, 3, none⟩ = some (.slice none 0 0) := vR.cell (j := 3) (by omega)
    have r4 : w1.cell? ⟨w.heap.size + 1, 4, none⟩ = some (.int .i64 0) := vR.cell (j := 4) (by omega)
    have r5 : w1.cell? ⟨w.heap.size + 1, 5, none⟩ = some (.slice none 0 0) := vR.cell (j := 5) (by omega)
    have zz := fun j => vR.frozen j
    have u := (((((vR.set 0 (.int .i64 0)).set 1 (.slice none 0 0)).set 2 (.slice none 0 0)).set 3 (.slice none 0 0)).set 4 (.int .i64 0)).set 5 (.slice none 0 0)
    obtain ⟨q0, q1, q2, q3, q4, q5⟩ := u.c6
    simp at q0 q1 q2 q3 q4 q5
    go_wp2
    exact bodyPost_ret (v := .tuple #[.agg #[.int .i64 0, .slice none 0 0, .slice none 0 0, .slice none 0 0, .int .i64 0, .slice none 0 0], .bool false]) (by simp [results, Tryz.results17, go_sem, q0, q1, q2, q3, q4, q5]) rfl (svAns_zero (by simp [World.setCell]; omega) ((((((hA1.setCell (p := ⟨w.heap.size + 1, 0, none⟩) (by simp) _).setCell (p := ⟨w.heap.size + 1, 1, none⟩) (by simp) _).setCell (p := ⟨w.heap.size + 1, 2, none⟩) (by simp) _).setCell (p := ⟨w.heap.size + 1, 3, none⟩) (by simp) _).setCell (p := ⟨w.heap.size + 1, 4, none⟩) (by simp) _).setCell (p := ⟨w.heap.size + 1, 5, none⟩) (by simp) _))
  replace ep := ep.symm
  replace en := en.symm
  subst ep en
  rw [hg] at HGO
  have HHI : Hid (∀ W, Row W ao n F T G → Calls Tryz.prog 46 #[.agg #[.int .i64 p, .slice ao n cap]] W fun e w' => HAns W w' e (lenO p n F T G) (listO p n F T) (lenF p n F T G (lenO p n F T G) (listO p n F T)) (Lf (lstF p n F T (listO p n F T))) (Hf (lstF p n F T (listO p n F T)))) := fun W h => specNewHier_any p ao n cap F T G hn W h
  generalize lenF p n F T G (lenO p n F T G) (listO p n F T) = N at HHI ⊢
  generalize Lf (lstF p n F T (listO p n F T)) = L at HHI ⊢
  generalize Hf (lstF p n F T (listO p n F T)) = H at HHI ⊢
  generalize lenO p n F T G = M at HHI ⊢
  generalize listO p n F T = D at HHI ⊢
  go_enter Tryz.func17, Tryz.ntmps17
  go_wp2_with fail
  generalize ((w.alloc (.cells #[.int .i64 p, .slice ao n cap] 26)).alloc (.cells #[.int .i64 0, .slice none 0 0, .slice none 0 0, .slice none 0 0, .int .i64 0, .slice none 0 0] 33)) = W at hA vA vR hrw hsz ⊢
  refine (HGO _ hrw).mono ?_
  rintro e w1 ⟨rfl, hb1⟩
  have hs1 := hb1.size
  have hA1 := (below_next hA nl hb1).drew
  replace vA := vA.next hb1
  have x0 : w1.cell? ⟨w.heap.size, 0, none⟩ = some (.int .i64 p) := vA.cell (j := 0) (by omega)
  have x1 : w1.cell? ⟨w.heap.size, 1, none⟩ = some (.slice ao n cap) := vA.cell (j := 1) (by omega)
  replace vA := vA.next (Below.refl w1.heap.size w1).drew
  replace vR := (vR.next hb1).next (Below.refl w1.heap.size w1).drew
  replace hrw := (hrw.below hb1 nl).below (Below.refl w1.heap.size w1).drew nl
  have hsd : w.heap.size + 2 ≤ w1.drew.heap.size := by show w.heap.size + 2 ≤ w1.heap.size; omega
  clear hb1 hA HGO hsz hs1
  go_wp2_with fail
  go_region_law (first
    | (go_simp; go_at_call 45; refine (l1Copy_any p ao n cap F T G hn _ hrw).mono ?_; rintro e w2 ⟨gN, capN, rfl, hgN, hlN, hO, hb2⟩; have vA2 := vA.next hb2; have vR2 := vR.next hb2; have hr2 := hrw.below hb2 nl; have hs2 := hb2.size; have y0 : w2.cell? ⟨w.heap.size, 0, none⟩ = some (.int .i64 p) := vA2.cell (j := 0) (by omega); have y1 : w2.cell? ⟨w.heap.size, 1, none⟩ = some (.slice ao n cap) := vA2.cell (j := 1) (by omega))
    | (go_simp; go_at_call 46; refine (HHI.out _ hr2).mono ?_; rintro e w3 ⟨po, pc, eo, ec, rfl, hI, hE, hs3, hb3⟩; have vR3 := vR2.next hb3; have r0 : w3.cell? ⟨w.heap.size + 1, 0, none⟩ = some (.int .i64 0) := vR3.cell (j := 0) (by omega); have r1 : w3.cell? ⟨w.heap.size + 1, 1, none⟩ = some (.slice none 0 0) := vR3.cell (j := 1) (by omega); have r2 : w3.cell? ⟨w.heap.size + 1, 2, none⟩ = some (.slice none 0 0) := vR3.cell (j := 2) (by omega); have r3 : w3.cell? ⟨w.heap.size + 1, 3, none⟩ = some (.slice none 0 0) := vR3.cell (j := 3) (by omega); have r4 : w3.cell? ⟨w.heap.size + 1, 4, none⟩ = some (.int .i64 0) := vR3.cell (j := 4) (by omega); have r5 : w3.cell? ⟨w.heap.size + 1, 5, none⟩ = some (.slice none 0 0) := vR3.cell (j := 5) (by omega); have zz := fun j => vR3.frozen j))
  all_goals
    have u := (((((vR3.set 0 (.int .i64 p)).set 1 (.slice (some ⟨gN, 0, none⟩) n capN)).set 2 (.slice po M pc)).set 3 (.slice eo N ec)).set 4 (.int .i64 0)).set 5 (.slice none 0 0)
    obtain ⟨q0, q1, q2, q3, q4, q5⟩ := u.c6
    simp at q0 q1 q2 q3 q4 q5
    have hA3 := below_next (below_next hA1 nl hb2) nl hb3
    have keep : ∀ x, x ≠ w.heap.size + 1 → ((((((w3.setCell ⟨w.heap.size + 1, 0, none⟩ (.int .i64 p)).setCell ⟨w.heap.size + 1, 1, none⟩ (.slice (some ⟨gN, 0, none⟩) n capN)).setCell ⟨w.heap.size + 1, 2, none⟩ (.slice po M pc)).setCell ⟨w.heap.size + 1, 3, none⟩ (.slice eo N ec)).setCell ⟨w.heap.size + 1, 4, none⟩ (.int .i64 0)).setCell ⟨w.heap.size + 1, 5, none⟩ (.slice none 0 0)).heap[x]? = w3.heap[x]? := fun x hx => by
      rw [Below.heap_setCell _ _ _ _ (by simpa using hx), Below.heap_setCell _ _ _ _ (by simpa using hx), Below.heap_setCell _ _ _ _ (by simpa using hx), Below.heap_setCell _ _ _ _ (by simpa using hx), Below.heap_setCell _ _ _ _ (by simpa using hx), Below.heap_setCell _ _ _ _ (by simpa using hx)]
    go_wp2
    refine bodyPost_ret (v := .tuple #[.agg #[.int .i64 p, .slice (some ⟨gN, 0, none⟩) n capN, .slice po M pc, .slice eo N ec, .int .i64 0, .slice none 0 0], .bool true]) (by simp [results, Tryz.results17, go_sem, q0, q1, q2, q3, q4, q5]) rfl (svAns_of (fun h => ?_) (fun h => ?_) (fun h => ?_) (by simp [World.setCell]; omega) ((((((hA3.setCell (p := ⟨w.heap.size + 1, 0, none⟩) (by simp) _).setCell (p := ⟨w.heap.size + 1, 1, none⟩) (by simp) _).setCell (p := ⟨w.heap.size + 1, 2, none⟩) (by simp) _).setCell (p := ⟨w.heap.size + 1, 3, none⟩) (by simp) _).setCell (p := ⟨w.heap.size + 1, 4, none⟩) (by simp) _).setCell (p := ⟨w.heap.size + 1, 5, none⟩) (by simp) _))
    · have hH := hO h
      exact ⟨gN, rfl, by omega, (hH.below hb3 hH.lt).of_block (keep gN (by omega))⟩
    · obtain ⟨g, e, hg1, hH⟩ := hI h
      exact ⟨g, e, by omega, hH.of_block (keep g (by omega))⟩
    · obtain ⟨g, e, hg1, hH⟩ := hE h
      exact ⟨g, e, by omega, hH.of_block (keep g (by omega))⟩
set_option maxRecDepth 100000 in
set_option maxHeartbeats 4000000 in
theorem implNewService_any (p : Int) (ao : Option Addr) (n cap : Nat) (F T G : Nat → Int) (hn : n ≤ 1048576) (w : World) (hr : Row w ao n F T G)
    (p' : Int) (n' M N : Nat) (D L H : Nat → Int) (ok : Bool) (hres : IsSv p n F T G p' n' M D N L H ok) :
    Calls Tryz.prog 16 #[.agg #[.int .i64 p, .slice ao n cap]] w fun e w' => SvAns w w' e p' n' F T G M D N L H ok := by
  have hA : Below w.heap.size w ((w.alloc (.cells #[.int .i64 p, .slice ao n cap] 26)).alloc (.cells #[.int .i64 0, .slice none 0 0, .slice none 0 0, .slice none 0 0, .int .i64 0, .slice none 0 0] 33)) := ((Below.refl _ _).alloc nl _).alloc (by simp) _
  have vA := (gb2_new w p (.slice ao n cap) 26).alloc (.cells #[.int .i64 0, .slice none 0 0, .slice none 0 0, .slice none 0 0, .int .i64 0, .slice none 0 0] 33)
  have vR := sv6_new (w.alloc (.cells #[.int .i64 p, .slice ao n cap] 26)) 0 (.slice none 0 0) (.slice none 0 0) (.slice none 0 0) 0 (.slice none 0 0) 33
  simp only [World.size_alloc] at vR
  have hsz : ((w.alloc (.cells #[.int .i64 p, .slice ao n cap] 26)).alloc (.cells #[.int .i64 0, .slice none 0 0, .slice none 0 0, .slice none 0 0, .int .i64 0, .slice none 0 0] 33)).heap.size = w.heap.size + 2 := by simp
  have hrw := hr.below hA nl
  have HGO := fun W h => implGraphOk_any p ao n cap F T G hn W h
  rcases hres with ⟨hg, ep, en, rfl, rfl, rfl, rfl, rfl, rfl⟩ | ⟨hg, rfl, rfl, rfl, rfl, rfl⟩
  rotate_left
  · rw [hg] at HGO
    go_enter Tryz.func16, Tryz.ntmps16
    go_wp2_with fail
    generalize ((w.alloc (.cells #[.int .i64 p, .slice ao n cap] 26)).alloc (.cells #[.int .i64 0, .slice none 0 0, .slice none 0 0, .slice none 0 0, .int .i64 0, .slice none 0 0] 33)) = W at hA vA vR hrw hsz ⊢
    refine (HGO _ hrw).mono ?_
    rintro e w1 ⟨rfl, hb1⟩
    replace vR := vR.next hb1
    have hs1 := hb1.size
    have hA1 := below_next hA nl hb1
    have r0 : w1.cell? ⟨w.heap.size + 1, 0, none⟩ = some (.int .i64 0) := vR.cell (j := 0) (by omega)
    have r1 : w1.cell? ⟨w.heap.size + 1, 1, none⟩ = some (.slice none 0 0) := vR.cell (j := 1) (by omega)
    have r2 : w1.cell? ⟨w.heap.size + 1, 2, none⟩ = some (.slice none 0 0) := vR.cell (j := 2) (by omega)
    have r3 : w1.cell? ⟨w.heap.size + 1, 3, none⟩ = some (.slice none 0 0) := vR.cell (j := 3) (by omega)
    have r4 : w1.cell? ⟨w.heap.size + 1, 4, none⟩ = some (.int .i64 0) := vR.cell (j := 4) (by omega)
    have r5 : w1.cell? ⟨w.heap.size + 1, 5, none⟩ = some (.slice none 0 0) := vR.cell (j := 5) (by omega)
    have zz := fun j => vR.frozen j
    have u := (((((vR.set 0 (.int .i64 0)).set 1 (.slice none 0 0)).set 2 (.slice none 0 0)).set 3 (.slice none 0 0)).set 4 (.int .i64 0)).set 5 (.slice none 0 0)
    obtain ⟨q0, q1, q2, q3, q4, q5⟩ := u.c6
    simp at q0 q1 q2 q3 q4 q5
    go_wp2
    exact bodyPost_ret (v := .tuple #[.agg #[.int .i64 0, .slice none 0 0, .slice none 0 0, .slice none 0 0, .int .i64 0, .slice none 0 0], .bool false]) (by simp [results, Tryz.results16, go_sem, q0, q1, q2, q3, q4, q5]) rfl (svAns_zero (by simp [World.setCell]; omega) ((((((hA1.setCell (p := ⟨w.heap.size + 1, 0, none⟩) (by simp) _).setCell (p := ⟨w.heap.size + 1, 1, none⟩) (by simp) _).setCell (p := ⟨w.heap.size + 1, 2, none⟩) (by simp) _).setCell (p := ⟨w.heap.size + 1, 3, none⟩) (by simp) _).setCell (p := ⟨w.heap.size + 1, 4, none⟩) (by simp) _).setCell (p := ⟨w.heap.size + 1, 5, none⟩) (by simp) _))
  replace ep := ep.symm
  replace en := en.symm
  subst ep en
  rw [hg] at HGO
  have HHI : Hid (∀ W, Row W ao n F T G → Calls Tryz.prog 43 #[.agg #[.int .i64 p, .slice ao n cap]] W fun e w' => HAns W w' e (lenO p n F T G) (listO p n F T) (lenF p n F T G (lenO p n F T G) (listO p n F T)) (Lf (lstF p n F T (listO p n F T))) (Hf (lstF p n F T (listO p n F T)))) := fun W h => implNewHier_any p ao n cap F T G hn W h
  generalize lenF p n F T G (lenO p n F T G) (listO p n F T) = N at HHI ⊢
  generalize Lf (lstF p n F T (listO p n F T)) = L at HHI ⊢
  generalize Hf (lstF p n F T (listO p n F T)) = H at HHI ⊢
  generalize lenO p n F T G = M at HHI ⊢
  generalize listO p n F T = D at HHI ⊢
  go_enter Tryz.func16, Tryz.ntmps16
  go_wp2_with fail
  generalize ((w.alloc (.cells #[.int .i64 p, .slice ao n cap] 26)).alloc (.cells #[.int .i64 0, .slice none 0 0, .slice none 0 0, .slice none 0 0, .int .i64 0, .slice none 0 0] 33)) = W at hA vA vR hrw hsz ⊢
  refine (HGO _ hrw).mono ?_
  rintro e w1 ⟨rfl, hb1⟩
  have hs1 := hb1.size
  have hA1 := (below_next hA nl hb1).drew
  replace vA := vA.next hb1
  have x0 : w1.cell? ⟨w.heap.size, 0, none⟩ = some (.int .i64 p) := vA.cell (j := 0) (by omega)
  have x1 : w1.cell? ⟨w.heap.size, 1, none⟩ = some (.slice ao n cap) := vA.cell (j := 1) (by omega)
  replace vA := vA.next (Below.refl w1.heap.size w1).drew
  replace vR := (vR.next hb1).next (Below.refl w1.heap.size w1).drew
  replace hrw := (hrw.below hb1 nl).below (Below.refl w1.heap.size w1).drew nl
  have hsd : w.heap.size + 2 ≤ w1.drew.heap.size := by show w.heap.size + 2 ≤ w1.heap.size; omega
  clear hb1 hA HGO hsz hs1
  go_wp2_with fail
  go_region_law (first
    | (go_simp; go_at_call 42; refine (copyOfGraph_any p ao n cap F T G hn _ hrw).mono ?_; rintro e w2 ⟨aoN, capN, rfl, hO, hb2⟩; have vA2 := vA.next hb2; have vR2 := vR.next hb2; have hr2 := hrw.below hb2 nl; have hs2 := hb2.size; have y0 : w2.cell? ⟨w.heap.size, 0, none⟩ = some (.int .i64 p) := vA2.cell (j := 0) (by omega); have y1 : w2.cell? ⟨w.heap.size, 1, none⟩ = some (.slice ao n cap) := vA2.cell (j := 1) (by omega))
    | (go_simp; go_at_call 43; refine (HHI.out _ hr2).mono ?_; rintro e w3 ⟨po, pc, eo, ec, rfl, hI, hE, hs3, hb3⟩; have vR3 := vR2.next hb3; have r0 : w3.cell? ⟨w.heap.size + 1, 0, none⟩ = some (.int .i64 0) := vR3.cell (j := 0) (by omega); have r1 : w3.cell? ⟨w.heap.size + 1, 1, none⟩ = some (.slice none 0 0) := vR3.cell (j := 1) (by omega); have r2 : w3.cell? ⟨w.heap.size + 1, 2, none⟩ = some (.slice none 0 0) := vR3.cell (j := 2) (by omega); have r3 : w3.cell? ⟨w.heap.size + 1, 3, none⟩ = some (.slice none 0 0) := vR3.cell (j := 3) (by omega); have r4 : w3.cell? ⟨w.heap.size + 1, 4, none⟩ = some (.int .i64 0) := vR3.cell (j := 4) (by omega); have r5 : w3.cell? ⟨w.heap.size + 1, 5, none⟩ = some (.slice none 0 0) := vR3.cell (j := 5) (by omega); have zz := fun j => vR3.frozen j))
  all_goals
    have u := (((((vR3.set 0 (.int .i64 p)).set 1 (.slice aoN n capN)).set 2 (.slice po M pc)).set 3 (.slice eo N ec)).set 4 (.int .i64 0)).set 5 (.slice none 0 0)
    obtain ⟨q0, q1, q2, q3, q4, q5⟩ := u.c6
    simp at q0 q1 q2 q3 q4 q5
    have hA3 := below_next (below_next hA1 nl hb2) nl hb3
    have keep : ∀ x, x ≠ w.heap.size + 1 → ((((((w3.setCell ⟨w.heap.size + 1, 0, none⟩ (.int .i64 p)).setCell ⟨w.heap.size + 1, 1, none⟩ (.slice aoN n capN)).setCell ⟨w.heap.size + 1, 2, none⟩ (.slice po M pc)).setCell ⟨w.heap.size + 1, 3, none⟩ (.slice eo N ec)).setCell ⟨w.heap.size + 1, 4, none⟩ (.int .i64 0)).setCell ⟨w.heap.size + 1, 5, none⟩ (.slice none 0 0)).heap[x]? = w3.heap[x]? := fun x hx => by
      rw [Below.heap_setCell _ _ _ _ (by simpa using hx), Below.heap_setCell _ _ _ _ (by simpa using hx), Below.heap_setCell _ _ _ _ (by simpa using hx), Below.heap_setCell _ _ _ _ (by simpa using hx), Below.heap_setCell _ _ _ _ (by simpa using hx), Below.heap_setCell _ _ _ _ (by simpa using hx)]
    go_wp2
    refine bodyPost_ret (v := .tuple #[.agg #[.int .i64 p, .slice aoN n capN, .slice po M pc, .slice eo N ec, .int .i64 0, .slice none 0 0], .bool true]) (by simp [results, Tryz.results16, go_sem, q0, q1, q2, q3, q4, q5]) rfl (svAns_of (fun h => ?_) (fun h => ?_) (fun h => ?_) (by simp [World.setCell]; omega) ((((((hA3.setCell (p := ⟨w.heap.size + 1, 0, none⟩) (by simp) _).setCell (p := ⟨w.heap.size + 1, 1, none⟩) (by simp) _).setCell (p := ⟨w.heap.size + 1, 2, none⟩) (by simp) _).setCell (p := ⟨w.heap.size + 1, 3, none⟩) (by simp) _).setCell (p := ⟨w.heap.size + 1, 4, none⟩) (by simp) _).setCell (p := ⟨w.heap.size + 1, 5, none⟩) (by simp) _))
    · obtain ⟨g, e, hg1, hH⟩ := hO h
      exact ⟨g, e, by omega, (hH.below hb3 hH.lt).of_block (keep g (by omega))⟩
    · obtain ⟨g, e, hg1, hH⟩ := hI h
      exact ⟨g, e, by omega, hH.of_block (keep g (by omega))⟩
    · obtain ⟨g, e, hg1, hH⟩ := hE h
      exact ⟨g, e, by omega, hH.of_block (keep g (by omega))⟩
end
section
open Go.ChangeShapes Go.WideShapes Go.ChangeAt Go.RowKit Go.Deep Go.Joins
attribute [local go_sem ↓] Go.wp_at_zero Go.wp_at_succ
def SRow (w : World) (ao : Option Addr) (n : Nat) (S : Nat → ByteArray) : Prop := ∀ k, k < n → ∃ b o, ao = some ⟨b, o, none⟩ ∧ w.cell? ⟨b, o + k, none⟩ = some (.string (S k))
theorem SRow.below {w w' : World} {B : Nat} {ao : Option Addr} {n : Nat} {S : Nat → ByteArray} (h : SRow w ao n S) (hb : Below B w w') (hB : w.heap.size ≤ B) : SRow w' ao n S := fun k hk => by
  obtain ⟨b, o, e, c0⟩ := h k hk
  have hlt := lt_of_cell c0
  exact ⟨b, o, e, by rw [hb.cell (by simp; omega)]; exact c0⟩
end
section
open Go.RowKit
def gCells (f : Nat → Value) (m : Nat) : List Value := (List.range m).map f
theorem gCells_len (f : Nat → Value) (m : Nat) : (gCells f m).length = m := by simp [gCells]
theorem gCells_at {f : Nat → Value} {m j : Nat} (h : j < m) : (gCells f m)[j]? = some (f j) := by simp [gCells, h]
theorem gCells_congr {f g : Nat → Value} {m : Nat} (h : ∀ j, j < m → f j = g j) : gCells f m = gCells g m := by
  apply List.ext_getElem?
  intro j
  by_cases hj : j < m
  · rw [gCells_at hj, gCells_at hj, h j hj]
  · rw [List.getElem?_eq_none (by rw [gCells_len]; omega), List.getElem?_eq_none (by rw [gCells_len]; omega)]
theorem gCells_app {f g h : Nat → Value} {a b : Nat} (h1 : ∀ j, j < a → h j = f j) (h2 : ∀ j, j < b → h (a + j) = g j) : gCells f a ++ gCells g b = gCells h (a + b) := by
  apply List.ext_getElem?
  intro j
  by_cases hj : j < a
  · rw [List.getElem?_append_left (by rw [gCells_len]; exact hj), gCells_at hj, gCells_at (by omega), h1 j hj]
  · rw [List.getElem?_append_right (by rw [gCells_len]; omega), gCells_len]
    by_cases hj2 : j < a + b
    · rw [gCells_at (by omega), gCells_at hj2, ← h2 (j - a) (by omega)]
      congr 2
      omega
    · rw [List.getElem?_eq_none (by rw [gCells_len]; omega), List.getElem?_eq_none (by rw [gCells_len]; omega)]
def GRow (w : World) (ao : Option Addr) (m : Nat) (f : Nat → Value) : Prop := 0 < m → ∃ b o, ao = some ⟨b, o, none⟩ ∧ ∀ j, j < m → w.cell? ⟨b, o + j, none⟩ = some (f j)
theorem GRow.below {w w' : World} {B : Nat} {ao : Option Addr} {m : Nat} {f : Nat → Value} (h : GRow w ao m f) (hb : Below B w w') (hB : w.heap.size ≤ B) : GRow w' ao m f := fun hm => by
  obtain ⟨b, o, e, hc⟩ := h hm
  refine ⟨b, o, e, fun j hj => ?_⟩
  have h0 := hc j hj
  have hlt := lt_of_cell h0
  rw [hb.cell (by simp; omega)]
  exact h0
theorem GRow.next {w w' : World} {ao : Option Addr} {m : Nat} {f : Nat → Value} (h : GRow w ao m f) (hb : Below w.heap.size w w') : GRow w' ao m f := h.below hb nl
theorem GRow.news {w : World} {b o m : Nat} {f : Nat → Value} (h : GRow w (some ⟨b, o, none⟩) m f) : ∀ j u, (gCells f m)[j]? = some u → w.cell? ((⟨b, o, none⟩ : Addr).add j) = some u := fun j u hu => by
  have hj : j < m := by
    rcases Nat.lt_or_ge j m with q | q
    · exact q
    · rw [List.getElem?_eq_none (by rw [gCells_len]; exact q)] at hu; cases hu
  rw [gCells_at hj] at hu
  obtain rfl := Option.some.inj hu
  obtain ⟨b', o', e, hc⟩ := h (by omega)
  cases e
  rw [Addr.add_mid]
  exact hc j hj
def GOwn (w : World) (base : Nat) (t : TypeId) (size : Nat) (ao : Option Addr) (n cap : Nat) (f : Nat → Value) : Prop := w.ownsRow base t size (.slice ao n cap) n (gCells f (n * size))
theorem GOwn.nil (w : World) (base : Nat) (t : TypeId) (size : Nat) (f : Nat → Value) : GOwn w base t size none 0 0 f := ⟨by simp [gCells], .inl ⟨rfl, rfl⟩⟩
theorem empty_ownsG (w : World) (t : TypeId) (size : Nat) : (w.alloc (.cells #[] t)).ownsRow w.heap.size t size (.slice (some ⟨w.heap.size, 0, none⟩) 0 0) 0 [] := by
  have := World.ownsRow_lit (base := w.heap.size) (e := t) (size := size) w #[] 0 (by simp) (by simp) (by simp)
  simpa using this
theorem GOwn.empty (w : World) (t : TypeId) (size : Nat) (f : Nat → Value) : GOwn (w.alloc (.cells #[] t)) w.heap.size t size (some ⟨w.heap.size, 0, none⟩) 0 0 f := by
  unfold GOwn
  have e : gCells f (0 * size) = [] := by simp [gCells]
  rw [e]
  exact empty_ownsG w t size
theorem GOwn.congr {w : World} {base : Nat} {t : TypeId} {size : Nat} {ao : Option Addr} {n cap : Nat} {f g : Nat → Value} (h : GOwn w base t size ao n cap f) (e : ∀ j, j < n * size → f j = g j) : GOwn w base t size ao n cap g := by
  unfold GOwn at h ⊢
  rw [← gCells_congr e]
  exact h
theorem GOwn.at {w : World} {base : Nat} {t : TypeId} {size : Nat} {ao : Option Addr} {n cap x : Nat} {f : Nat → Value} (h : GOwn w base t size ao n cap f) (e : (Value.slice ao n cap).ownBlock = some x) : base ≤ x ∧ x < w.heap.size := World.ownsRow.lt h x e
theorem GOwn.of_block {w w' : World} {base : Nat} {t : TypeId} {size : Nat} {ao : Option Addr} {n cap : Nat} {f : Nat → Value} (h : GOwn w base t size ao n cap f) (e : ∀ x, (Value.slice ao n cap).ownBlock = some x → w'.heap[x]? = w.heap[x]?) : GOwn w' base t size ao n cap f := by
  obtain ⟨hl, ho⟩ := h
  refine ⟨hl, ?_⟩
  rcases ho with h1 | ⟨g, cap', cur, e1, hb, hblk, r⟩
  · exact .inl h1
  · refine .inr ⟨g, cap', cur, e1, hb, ?_, r⟩
    rw [e g (by rw [e1]; rfl)]
    exact hblk
theorem GOwn.next {w w' : World} {base : Nat} {t : TypeId} {size : Nat} {ao : Option Addr} {n cap : Nat} {f : Nat → Value} (h : GOwn w base t size ao n cap f) (hb : Below w.heap.size w w') : GOwn w' base t size ao n cap f := h.of_block (fun x e => hb.block x (h.at e).2)
theorem GOwn.grown {w w' : World} {base : Nat} {t : TypeId} {size : Nat} {ao : Option Addr} {n cap : Nat} {f : Nat → Value} {row : Option Nat} (h : GOwn w base t size ao n cap f) (hg : w.grownBy w' row) (hne : ∀ x, (Value.slice ao n cap).ownBlock = some x → row ≠ some x) : GOwn w' base t size ao n cap f := h.of_block (fun x e => hg.block x (h.at e).2 (fun q => hne x e q.symm))
theorem GOwn.from {w : World} {base base' : Nat} {t : TypeId} {size : Nat} {ao : Option Addr} {n cap : Nat} {f : Nat → Value} (h : GOwn w base t size ao n cap f) (hb : base' ≤ base) : GOwn w base' t size ao n cap f := by
  obtain ⟨hl, ho⟩ := h
  refine ⟨hl, ?_⟩
  rcases ho with h1 | ⟨g, cap', cur, e1, hb1, r⟩
  · exact .inl h1
  · exact .inr ⟨g, cap', cur, e1, Nat.le_trans hb hb1, r⟩
theorem GOwn.vhas {w : World} {base : Nat} {t : TypeId} {size : Nat} {ao : Option Addr} {n cap : Nat} {f : Nat → Value} (h : GOwn w base t size ao n cap f) (hn : 0 < n) : ∃ g, ao = some ⟨g, 0, none⟩ ∧ base ≤ g ∧ VHas w g t (n * size) f := by
  obtain ⟨hl, h⟩ := h
  rcases h with ⟨e, e0⟩ | ⟨g, cap', cur, e, hb, hblk, hnc, hcm, hsz, ht⟩
  · cases e; omega
  · cases e
    refine ⟨g, rfl, hb, cur, hblk, ?_, fun j hj => ?_⟩
    · have := congrArg List.length ht
      rw [gCells_len] at this
      simp at this
      omega
    · have h3 : (cur.toList.take (n * size))[j]? = some (f j) := by rw [ht, gCells_at hj]
      rw [List.getElem?_take, if_pos hj] at h3
      simpa using h3
theorem GOwn.row {w : World} {base : Nat} {t : TypeId} {size : Nat} {ao : Option Addr} {n cap : Nat} {f : Nat → Value} (h : GOwn w base t size ao n cap f) : GRow w ao (n * size) f := fun hm => by
  obtain ⟨g, e, _, hv⟩ := h.vhas (by rcases Nat.eq_zero_or_pos n with q | q; · rw [q] at hm; simp at hm
                                     · exact q)
  exact ⟨g, 0, e, fun j hj => by rw [Nat.zero_add]; exact hv.cell hj⟩
def TRow (w : World) (t : TypeId) (ao : Option Addr) (m : Nat) (f : Nat → Value) : Prop := 0 < m → ∃ g, ao = some ⟨g, 0, none⟩ ∧ VHas w g t m f
def Typed (w : World) (b : Nat) (t : TypeId) : Prop := ∃ cs z, w.heap[b]? = some (.cells cs t z)
theorem VHas.typed {w : World} {b n : Nat} {t : TypeId} {f : Nat → Value} (h : VHas w b t n f) : Typed w b t := by
  obtain ⟨cs, h1, _⟩ := h
  exact ⟨cs, _, h1⟩
theorem typed_ne {w : World} {b c : Nat} {t u : TypeId} (h : Typed w b t) (k : Typed w c u) (hn : t ≠ u) : b ≠ c := fun e => by
  obtain ⟨c1, z1, h1⟩ := h
  obtain ⟨c2, z2, h2⟩ := k
  rw [e, h2] at h1
  simp at h1
  exact hn h1.2.1.symm
theorem GOwn.typed {w : World} {base : Nat} {t : TypeId} {size : Nat} {ao : Option Addr} {n cap x : Nat} {f : Nat → Value} (h : GOwn w base t size ao n cap f) (e : (Value.slice ao n cap).ownBlock = some x) : Typed w x t := by
  obtain ⟨hl, ho⟩ := h
  rcases ho with ⟨h1, _⟩ | ⟨g, cap', cur, e1, hb, hblk, r⟩
  · rw [h1] at e; cases e
  · rw [e1] at e
    obtain rfl : g = x := by simpa [Value.ownBlock] using e
    exact ⟨cur, _, hblk⟩
theorem GOwn.trow {w : World} {base : Nat} {t : TypeId} {size : Nat} {ao : Option Addr} {n cap : Nat} {f : Nat → Value} (h : GOwn w base t size ao n cap f) : TRow w t ao (n * size) f := fun hm => by
  obtain ⟨g, e, _, hv⟩ := h.vhas (by rcases Nat.eq_zero_or_pos n with q | q; · rw [q] at hm; simp at hm
                                     · exact q)
  exact ⟨g, e, hv⟩
theorem TRow.next {w w' : World} {t : TypeId} {ao : Option Addr} {m : Nat} {f : Nat → Value} (h : TRow w t ao m f) (hb : Below w.heap.size w w') : TRow w' t ao m f := fun hm => by
  obtain ⟨g, e, hv⟩ := h hm
  exact ⟨g, e, hv.next hb⟩
theorem TRow.gr {w w' : World} {t u : TypeId} {ao : Option Addr} {m : Nat} {f : Nat → Value} {row : Option Nat} (h : TRow w t ao m f) (hg : w.grownBy w' row) (hx : ∀ x, row = some x → Typed w x u) (hn : t ≠ u) : TRow w' t ao m f := fun hm => by
  obtain ⟨g, e, hv⟩ := h hm
  refine ⟨g, e, hv.grown hg (fun q => ?_)⟩
  exact typed_ne hv.typed (hx g q.symm) hn rfl
theorem VHas.gr {w w' : World} {b n : Nat} {t u : TypeId} {f : Nat → Value} {row : Option Nat} (h : VHas w b t n f) (hg : w.grownBy w' row) (hx : ∀ x, row = some x → Typed w x u) (hn : t ≠ u) : VHas w' b t n f := h.grown hg (fun q => typed_ne h.typed (hx b q.symm) hn rfl)
theorem TRow.row {w : World} {t : TypeId} {ao : Option Addr} {m : Nat} {f : Nat → Value} (h : TRow w t ao m f) : GRow w ao m f := fun hm => by
  obtain ⟨g, e, hv⟩ := h hm
  exact ⟨g, 0, e, fun j hj => by rw [Nat.zero_add]; exact hv.cell hj⟩
end
section
open Go.RowKit Go.Maps
attribute [local go_sem ↓] Go.wp_at_zero Go.wp_at_succ
theorem Tryz.info9I : (Tryz.prog.info? 2).map (fun i => (i.zero, i.size, i.bytes)) = some (some (.int .i64 0), 1, 8) := by kernel_rfl
theorem eqlI_some (a : Addr) (n cap : Nat) (w : World) : (binOp BinOp.eql 27 (.slice (some a) n cap) (.slice none 0 0)).run Tryz.prog w = .ok (.bool false) w := by kernel_rfl
theorem eqlI_none (n cap : Nat) (w : World) : (binOp BinOp.eql 27 (.slice none n cap) (.slice none 0 0)).run Tryz.prog w = .ok (.bool true) w := by kernel_rfl
theorem one9I (P : Nat → Int) (m : Nat) : ∀ u ∈ gCells (fun j => Value.int .i64 (P j)) m, u.oneCell' = true := fun u hu => by
  simp only [gCells, List.mem_map, List.mem_range] at hu
  obtain ⟨j, _, rfl⟩ := hu
  rfl
set_option maxRecDepth 100000 in
set_option maxHeartbeats 2000000 in
theorem cloneI_pos (b o n cap : Nat) (P : Nat → Int) (hn : n ≤ 1048576) (hpos : 0 < n) (w : World) (hr : GRow w (some ⟨b, o, none⟩) (n * 1) (fun j => Value.int .i64 (P j))) :
    Calls Tryz.prog 53 #[.slice (some ⟨b, o, none⟩) n cap] w fun e w' => ∃ ao' cap', e = .returned (.slice ao' n cap') ∧ GOwn w' w.heap.size 2 1 ao' n cap' (fun j => Value.int .i64 (P j)) ∧ Below w.heap.size w w' := by
  obtain ⟨i0, hi0, hz0, hz1, hz2⟩ := info_parts Tryz.info9I
  have hnil := fun W => eqlI_some ⟨b, o, none⟩ n cap W
  go_enter Tryz.func53, Tryz.ntmps53
  go_wp2_with (at_builtin; refine wpList_append_lies _ rfl _ _ _ rfl w.heap.size 2 i0 _ 1 8 Tryz.underlying27 hi0 hz0 hz1 hz2 rfl (by omega) (.slice (some ⟨w.heap.size, 0, none⟩) 0 0) 0 [] rfl (empty_ownsG w 2 1) ⟨b, o, none⟩ n cap (gCells (fun j => Value.int .i64 (P j)) (n * 1)) rfl (gCells_len _ _) (GRow.news (hr.next ((Below.refl _ _).alloc nl _))) (one9I P _) hpos (by unfold maxLen; omega) (by omega) (by simp) (w.heap.size + 1) (by simp) ?_; intro g cap' w1 hown1 hgrow hat hlt)
  simp only [Nat.zero_add, List.nil_append] at hown1 ⊢
  go_wp2
  go_ret
  refine ⟨_, _, rfl, hown1, ?_⟩
  refine Below.grown ((Below.refl _ _).alloc nl _) hgrow (by simp) ?_
  intro k hk
  simp [Value.ownBlock] at hk
  omega
set_option maxRecDepth 100000 in
set_option maxHeartbeats 2000000 in
theorem cloneI_zero (ao : Option Addr) (cap : Nat) (P : Nat → Int) (w : World) :
    Calls Tryz.prog 53 #[.slice ao 0 cap] w fun e w' => ∃ ao' cap', e = .returned (.slice ao' 0 cap') ∧ GOwn w' w.heap.size 2 1 ao' 0 cap' (fun j => Value.int .i64 (P j)) ∧ Below w.heap.size w w' := by
  have hsc : ∀ (a : Addr) (w : World), (storeCells a []).run Tryz.prog w = .ok () w := fun _ _ => rfl
  cases ao with
  | none =>
    have hnil := fun W => eqlI_none 0 cap W
    go_enter Tryz.func53, Tryz.ntmps53
    go_wp2
    go_ret
    exact ⟨_, _, rfl, GOwn.nil _ _ _ _ _, by first | exact Below.refl _ _ | exact (Below.refl _ _).alloc nl _⟩
  | some a =>
    have hnil := fun W => eqlI_some a 0 cap W
    go_enter Tryz.func53, Tryz.ntmps53
    go_wp2
    go_ret
    exact ⟨_, _, rfl, GOwn.empty _ _ _ _, by first | exact Below.refl _ _ | exact (Below.refl _ _).alloc nl _⟩
theorem cloneI_any (ao : Option Addr) (n cap : Nat) (P : Nat → Int) (hn : n ≤ 1048576) (w : World) (hr : GRow w ao (n * 1) (fun j => Value.int .i64 (P j))) :
    Calls Tryz.prog 53 #[.slice ao n cap] w fun e w' => ∃ ao' cap', e = .returned (.slice ao' n cap') ∧ GOwn w' w.heap.size 2 1 ao' n cap' (fun j => Value.int .i64 (P j)) ∧ Below w.heap.size w w' := by
  by_cases h : 0 < n
  · obtain ⟨b, o, e, _⟩ := hr (by omega)
    subst e
    exact cloneI_pos b o n cap P hn h w hr
  · obtain rfl : n = 0 := by omega
    exact cloneI_zero ao cap P w
theorem Tryz.info9E : (Tryz.prog.info? 94).map (fun i => (i.zero, i.size, i.bytes)) = some (some (.agg #[.int .i64 0, .int .i64 0]), 2, 16) := by kernel_rfl
theorem eqlE_some (a : Addr) (n cap : Nat) (w : World) : (binOp BinOp.eql 28 (.slice (some a) n cap) (.slice none 0 0)).run Tryz.prog w = .ok (.bool false) w := by kernel_rfl
theorem eqlE_none (n cap : Nat) (w : World) : (binOp BinOp.eql 28 (.slice none n cap) (.slice none 0 0)).run Tryz.prog w = .ok (.bool true) w := by kernel_rfl
theorem one9E (g : Nat → Int) (m : Nat) : ∀ u ∈ gCells (fun j => Value.int .i64 (g j)) m, u.oneCell' = true := fun u hu => by
  simp only [gCells, List.mem_map, List.mem_range] at hu
  obtain ⟨j, _, rfl⟩ := hu
  rfl
set_option maxRecDepth 100000 in
set_option maxHeartbeats 2000000 in
theorem cloneE_pos (b o n cap : Nat) (g : Nat → Int) (hn : n ≤ 1048576) (hpos : 0 < n) (w : World) (hr : GRow w (some ⟨b, o, none⟩) (n * 2) (fun j => Value.int .i64 (g j))) :
    Calls Tryz.prog 54 #[.slice (some ⟨b, o, none⟩) n cap] w fun e w' => ∃ ao' cap', e = .returned (.slice ao' n cap') ∧ GOwn w' w.heap.size 94 2 ao' n cap' (fun j => Value.int .i64 (g j)) ∧ Below w.heap.size w w' := by
  obtain ⟨i0, hi0, hz0, hz1, hz2⟩ := info_parts Tryz.info9E
  have hnil := fun W => eqlE_some ⟨b, o, none⟩ n cap W
  go_enter Tryz.func54, Tryz.ntmps54
  go_wp2_with (at_builtin; refine wpList_append_lies _ rfl _ _ _ rfl w.heap.size 94 i0 _ 2 16 Tryz.underlying28 hi0 hz0 hz1 hz2 rfl (by omega) (.slice (some ⟨w.heap.size, 0, none⟩) 0 0) 0 [] rfl (empty_ownsG w 94 2) ⟨b, o, none⟩ n cap (gCells (fun j => Value.int .i64 (g j)) (n * 2)) rfl (gCells_len _ _) (GRow.news (hr.next ((Below.refl _ _).alloc nl _))) (one9E g _) hpos (by unfold maxLen; omega) (by omega) (by simp) (w.heap.size + 1) (by simp) ?_; intro g cap' w1 hown1 hgrow hat hlt)
  simp only [Nat.zero_add, List.nil_append] at hown1 ⊢
  go_wp2
  go_ret
  refine ⟨_, _, rfl, hown1, ?_⟩
  refine Below.grown ((Below.refl _ _).alloc nl _) hgrow (by simp) ?_
  intro k hk
  simp [Value.ownBlock] at hk
  omega
set_option maxRecDepth 100000 in
set_option maxHeartbeats 2000000 in
theorem cloneE_zero (ao : Option Addr) (cap : Nat) (g : Nat → Int) (w : World) :
    Calls Tryz.prog 54 #[.slice ao 0 cap] w fun e w' => ∃ ao' cap', e = .returned (.slice ao' 0 cap') ∧ GOwn w' w.heap.size 94 2 ao' 0 cap' (fun j => Value.int .i64 (g j)) ∧ Below w.heap.size w w' := by
  have hsc : ∀ (a : Addr) (w : World), (storeCells a []).run Tryz.prog w = .ok () w := fun _ _ => rfl
  cases ao with
  | none =>
    have hnil := fun W => eqlE_none 0 cap W
    go_enter Tryz.func54, Tryz.ntmps54
    go_wp2
    go_ret
    exact ⟨_, _, rfl, GOwn.nil _ _ _ _ _, by first | exact Below.refl _ _ | exact (Below.refl _ _).alloc nl _⟩
  | some a =>
    have hnil := fun W => eqlE_some a 0 cap W
    go_enter Tryz.func54, Tryz.ntmps54
    go_wp2
    go_ret
    exact ⟨_, _, rfl, GOwn.empty _ _ _ _, by first | exact Below.refl _ _ | exact (Below.refl _ _).alloc nl _⟩
theorem cloneE_any (ao : Option Addr) (n cap : Nat) (g : Nat → Int) (hn : n ≤ 1048576) (w : World) (hr : GRow w ao (n * 2) (fun j => Value.int .i64 (g j))) :
    Calls Tryz.prog 54 #[.slice ao n cap] w fun e w' => ∃ ao' cap', e = .returned (.slice ao' n cap') ∧ GOwn w' w.heap.size 94 2 ao' n cap' (fun j => Value.int .i64 (g j)) ∧ Below w.heap.size w w' := by
  by_cases h : 0 < n
  · obtain ⟨b, o, e, _⟩ := hr (by omega)
    subst e
    exact cloneE_pos b o n cap g hn h w hr
  · obtain rfl : n = 0 := by omega
    exact cloneE_zero ao cap g w
end
end Go.Proofs.YthmpliljffmmcaaGreatDoor
