/-
  The program's NewCluster.
-/
import Derived.Test.YticckgmkhgnmfaaDoorCluK
import Derived.Test.YticckgmkhgnmfaaDoorNew1
import Derived.Test.YticckgmkhgnmfaaDoorOrdq
set_option linter.unusedVariables false
set_option linter.unusedSimpArgs false
namespace Go.Proofs.YticckgmkhgnmfaaDoor
open Go Go.RowKit
attribute [local go_sem ↓] Go.wp_at_zero Go.wp_at_succ

/-- How many there are, and whether it is a cluster. -/
def nK (p : Int) : Nat := if 1 ≤ p ∧ p ≤ 5 then p.toNat else 0
def nB (p : Int) : Bool := decide (1 ≤ p ∧ p ≤ 5)
/-- What NewCluster answers. -/
def NcAns (w w' : World) (e : Ending) (p : Int) : Prop := ∃ ao cap, e = .returned (.tuple #[.agg #[.slice ao (nK p) cap, .slice none 0 0], .bool (nB p)]) ∧ GOwn w' w.heap.size 51 10 ao (nK p) cap (lf (clc (newL p (nK p)))) ∧ RB w w'
theorem ncans_zero {w w' : World} {p : Int} (h : ¬ (1 ≤ p ∧ p ≤ 5)) (hb : RB w w') : NcAns w w' (.returned (.tuple #[.agg #[.slice none 0 0, .slice none 0 0], .bool false])) p := by
  have e1 : nK p = 0 := by simp [nK, h]
  have e2 : nB p = false := by simp [nB, h]
  unfold NcAns
  rw [e1, e2]
  exact ⟨none, 0, rfl, GOwn.nil _ _ _ _ _, hb⟩
def newQ (q : Nq) : Bool := newB q.n.id q.n.peers
theorem okFrom_new (p : Int) : ∀ (K i : Nat), i ≤ K → (p = K) → okFrom newQ p i ((newL p K).drop i) = decide (K = i ∨ p ≤ 5) := by
  intro K i hi hp
  obtain ⟨d, hd⟩ : ∃ d, d = K - i := ⟨_, rfl⟩
  induction d generalizing i with
  | zero =>
    obtain rfl : i = K := by omega
    rw [List.drop_eq_nil_of_le (by rw [newL_len]; omega)]
    simp [okFrom]
  | succ d ih =>
    have hlt : i < (newL p K).length := by rw [newL_len]; omega
    have e1 : (newL p K)[i] = ⟨newN i p, ns0⟩ := by
      have := newL_at p (k := K) (i := i) (by omega)
      rw [List.getElem?_eq_getElem hlt] at this
      exact Option.some.inj this
    rw [List.drop_eq_getElem_cons hlt, e1]
    have := ih (i + 1) (by omega) (by omega)
    have ec : ((i + 1 : Nat) : Int) = (i : Int) + 1 := by omega
    rw [ec] at this
    simp only [okFrom, this, newQ, newN, newB]
    by_cases h5 : p ≤ 5
    · simp [h5]; omega
    · simp [h5]; omega
theorem cluB_new {p : Int} (h5 : p ≤ 5) : cluB newQ (newL p p.toNat) 0 = decide (1 ≤ p) := by
  by_cases h1 : 1 ≤ p
  · have hp : p = (p.toNat : Int) := by omega
    have e1 := okFrom_new p p.toNat 0 (Nat.zero_le _) hp
    simp only [List.drop_zero] at e1
    have e2 : ((newL p p.toNat).length : Int) = p := by rw [newL_len]; omega
    unfold cluB
    rw [e2]
    rw [show ((0 : Nat) : Int) = 0 from rfl] at e1
    rw [e1]
    simp [newL_len, h1, h5]
    omega
  · have : p.toNat = 0 := by omega
    simp [cluB, this, newL, h1]
set_option maxRecDepth 100000 in
set_option maxHeartbeats 8000000 in
theorem implNewCluster_any (p : Int) (a : Addr) (w : World) (hV : w.cell? ⟨0, 0, none⟩ = some (.iface 180 (.pointer (some a)))) : Calls Tryd.prog 6 #[.int .i64 p] w fun e w' => NcAns w w' e p := by
  have hb := RB.trans _ _ _ (RB.alloc w (.cells #[.slice none 0 0, .slice none 0 0] 25)) (RB.alloc _ (.cells #[.slice none 0 0, .slice none 0 0] 25))
  have vR : VHas _ w.heap.size 25 2 (lf [.slice none 0 0, .slice none 0 0]) := (box_new w [.slice none 0 0, .slice none 0 0] 25).next (RB.alloc _ (.cells #[.slice none 0 0, .slice none 0 0] 25))
  have vC : VHas ((w.alloc (.cells #[.slice none 0 0, .slice none 0 0] 25)).alloc (.cells #[.slice none 0 0, .slice none 0 0] 25)) (w.heap.size + 1) 25 2 (lf [.slice none 0 0, .slice none 0 0]) := by
    have := box_new (w.alloc (.cells #[.slice none 0 0, .slice none 0 0] 25)) [.slice none 0 0, .slice none 0 0] 25
    rw [World.size_alloc] at this
    exact this
  by_cases h5 : 5 < p
  · have hnw : newB 0 p = false := by simp [newB]; omega
    go_enter Tryd.func6, Tryd.ntmps6
    go_wp2
    go_loopw [5, 6, 7, 9] (fun x5 x6 x7 x9 wr => x9 = .int .i64 0 ∧ VHas wr w.heap.size 25 2 (lf [.slice none 0 0, .slice none 0 0]) ∧ RB w wr) (fun _ _ _ _ _ => 0)
    case atStart => exact ⟨rfl, vR, hb⟩
    case round =>
      obtain ⟨rfl, vR, hb⟩ := hrel
      have h0p : (0 : Int) < p := by omega
      go_wp2_with fail
      refine (newNode_any 0 p a _ (keep_cell hb (Nat.le_refl _) hV)).mono ?_
      rintro e w1 ⟨rfl, hb1⟩
      rw [hnw]
      replace vR := vR.next hb1
      replace hb := RB.trans _ _ _ hb hb1
      have hal := RB.alloc w1 (.cells (ndL nd0 ns0).toArray 51)
      replace vR := vR.next hal
      replace hb := RB.trans _ _ _ hb hal
      clear hb1 hal
      go_wp2_with (first | (with_reducible refine wpList_store_box rfl 25 (.tmp 2) (.tmp 20) rfl rfl w.heap.size [.slice none 0 0, .slice none 0 0] (by simp [go_sem]) (by simp [go_sem]) vR (by kernel_rfl) (oneAll (by kernel_rfl)) ?_; intro W9 hv9 hg9) | fail)
      have q0 := hv9.cell (j := 0) (by simp)
      have q1 := hv9.cell (j := 1) (by simp)
      simp [lf] at q0 q1
      exact bodyPost_ret (v := .tuple #[.agg #[.slice none 0 0, .slice none 0 0], .bool false]) (by simp [results, Tryd.results6, go_sem, q0, q1]) rfl (ncans_zero (by omega) (gr_rb hb hg9 (Nat.le_refl _)))
  obtain ⟨K, hK⟩ : ∃ K, K = p.toNat := ⟨_, rfl⟩
  have HKK : Hid (K = p.toNat) := hK
  have hK5 : K ≤ 5 := by omega
  clear hK
  go_enter Tryd.func6, Tryd.ntmps6
  go_wp2
  go_loopw [5, 6, 7, 9] (fun x5 x6 x7 x9 wr => ∃ (k : Nat) (ao : Option Addr) (cap : Nat), k ≤ K ∧ x9 = .int .i64 (k : Int) ∧ GOwn wr w.heap.size 51 10 ao k cap (lf (clc (newL p k))) ∧ VHas wr w.heap.size 25 2 (lf [.slice none 0 0, .slice none 0 0]) ∧ VHas wr (w.heap.size + 1) 25 2 (lf [.slice ao k cap, .slice none 0 0]) ∧ RB w wr) (fun _ _ _ x _ => K - (intOf x).toNat)
  case atStart => exact ⟨0, none, 0, Nat.zero_le _, rfl, GOwn.nil _ _ _ _ _, vR, vC, hb⟩
  case round =>
    obtain ⟨k, ao, cap, hk, rfl, hO, vR, vC, hb⟩ := hrel
    by_cases hlt : k < K
    · have hltp : (k : Int) < p := by have := HKK.out; omega
      have hnw : newB k p = true := by
        have := HKK.out
        simp [newB]
        omega
      have hw1 : IntKind.i64.wrap ((k : Int) + 1) = (k : Int) + 1 := by rw [IntKind.wrap_i64]; omega
      go_wp2_with fail
      refine (newNode_any k p a _ (keep_cell hb (Nat.le_refl _) hV)).mono ?_
      rintro e w1 ⟨rfl, hb1⟩
      rw [hnw]
      simp only [if_true]
      obtain ⟨nd, hnd⟩ : ∃ nd, nd = newN k p := ⟨_, rfl⟩
      have HND : Hid (nd = newN k p) := hnd
      rw [show (Value.agg #[.int .i64 (k : Int), .int .i64 p, .int .i64 0, .int .i64 (-1), .slice none 0 0, .int .i64 1, .int .i64 0, .slice none 0 0, .slice none 0 0, .slice none 0 0]) = ndV nd ns0 by rw [hnd]; rfl]
      clear hnd
      replace vR := vR.next hb1
      replace vC := vC.next hb1
      replace hO := hO.next hb1
      replace hb := RB.trans _ _ _ hb hb1
      have hal := RB.alloc w1 (.cells (ndL nd ns0).toArray 51)
      have vN := ndB_new w1 nd ns0
      replace vR := vR.next hal
      replace vC := vC.next hal
      replace hO := hO.next hal
      replace hb := RB.trans _ _ _ hb hal
      have hal2 := RB.alloc (w1.alloc (.cells (ndL nd ns0).toArray 51)) (.cells (ndL nd ns0).toArray 51)
      have vL := ndB_new (w1.alloc (.cells (ndL nd ns0).toArray 51)) nd ns0
      have y0 := vC.cell (j := 0) (by omega)
      simp [lf] at y0
      obtain ⟨c0, c1, c2, c3, c4, c5, c6, c7, c8, c9⟩ := VHas.c10 vN
      simp [lf] at c0 c1 c2 c3 c4 c5 c6 c7 c8 c9
      replace vC := vC.next hal2
      replace vR := vR.next hal2
      replace hO := hO.next hal2
      replace hb := RB.trans _ _ _ hb hal2
      have hgr : GRow ((w1.alloc (.cells (ndL nd ns0).toArray 51)).alloc (.cells (ndL nd ns0).toArray 51)) (some ⟨(w1.alloc (.cells (ndL nd ns0).toArray 51)).heap.size, 0, none⟩) (1 * 10) (lf (ndL nd ns0)) := vhas_grow vL
      have hon : ∀ j, j < 1 * 10 → (lf (ndL nd ns0) j).oneCell' = true := fun j hj => ndL_one ⟨nd, ns0⟩ j (by omega)
      have hlen : k + 1 ≤ 100000000 := by omega
      have hsz := hb.size
      clear hb1 hal hal2 vN vL
      go_wp2_with (first | (at_builtin; with_reducible refine wpList_appR rfl (.tmp 22) (.tmp 24) Tryd.elQ rfl 25 rfl w.heap.size _ ao k cap (by simp [go_sem]) hO (some ⟨(w1.alloc (.cells (ndL nd ns0).toArray 51)).heap.size, 0, none⟩) 1 1 (lf (ndL nd ns0)) (by simp [go_sem]) hgr hon hlen hsz ?_; intro ao' cap' w2 hown hg; have hT : ∀ x, (Value.slice ao k cap).ownBlock = some x → Typed _ x 51 := fun x e => hO.typed e; replace vC := VHas.gr vC hg hT (by decide); replace vR := VHas.gr vR hg hT (by decide); replace hb := rb_row hb hg (fun x e => (hO.at e).1); clear hg hT) | (with_reducible refine wpList_cell rfl 22 (.tmp 26) (.tmp 25) rfl rfl (w.heap.size + 1) 0 (.slice ao' (k + 1) cap') (by simp [go_sem]) (by simp [go_sem]) vC (by omega) (by kernel_rfl) rfl (oneV (by kernel_rfl)) ?_; intro W3 hW3) | fail)
      have hg3 := gr_setCell w2 (w.heap.size + 1) 0 (.slice ao' (k + 1) cap')
      have hT3 : ∀ x, some (w.heap.size + 1) = some x → Typed w2 x 25 := fun x e => by cases e; exact vC.typed
      have vC3 := vC.set 0 (.slice ao' (k + 1) cap')
      have hown3 := clc_more (q := ⟨nd, ns0⟩) (newL_len p k) hown
      rw [HND.out] at hown3
      replace hown3 : GOwn w2 w.heap.size 51 10 ao' (k + 1) cap' (lf (clc (newL p (k + 1)))) := hown3
      go_roundw
      case rel =>
        exact ⟨k + 1, ao', cap', by omega, by go_num, GOwn.gr hown3 hg3 hT3 (by decide), vR.grown hg3 (fun e => by have := Option.some.inj e; omega), vC3.congr (fun j hj => by
          have : j = 0 ∨ j = 1 := by omega
          rcases this with rfl | rfl <;> simp [lf]), gr_rb hb hg3 (by omega)⟩
      case measure => simp [intOf]; omega
    obtain rfl : k = K := by omega
    have hge : ¬ (k : Int) < p := by have := HKK.out; omega
    go_wp2_with fail
    have hd : RB wr wr.drew := (Below.refl _ _).drew
    replace vC := vC.next hd
    replace vR := vR.next hd
    replace hO := hO.next hd
    replace hb := RB.trans _ _ _ hb hd
    clear hd
    have hcb : cluB newQ (newL p k) 0 = decide (1 ≤ p) := by
      rw [HKK.out]
      exact cluB_new (by omega)
    have hlr : LRow wr.drew 51 ao (clc (newL p k)) := GOwn.lrow hO (by rw [clc_len, newL_len])
    have hsz := hb.size
    refine region_put (by kernel_rfl) (by kernel_rfl) 3 [0, 1, 2] [2, 4] (by kernel_rfl) (by kernel_rfl)
      (fun u v => u.grownBy v (some w.heap.size) ∧ Typed u w.heap.size 25)
      (fun W5 => VHas W5 w.heap.size 25 2 (lf [.slice ao k cap, .slice none 0 0]) ∧ GOwn W5 w.heap.size 51 10 ao k cap (lf (clc (newL p k))) ∧ RB w W5)
      (fun a b h hR => ⟨VHas.next h.1 hR, h.2.1.next hR, RB.trans _ _ _ h.2.2 hR⟩)
      [isV (.agg #[.slice ao k cap, .slice none 0 0]), isV (.agg #[.slice ao k cap, .slice none 0 0]), isV (.bool (decide (1 ≤ p))), fun _ _ => True, isV (.bool (decide (1 ≤ p)))]
      ⟨isV.rb, isV.rb, isV.rb, fun _ _ _ h _ => h, isV.rb, trivial⟩ ?_ ?_ (lates ?_) _ rfl rfl ?_ ?_
    · intro i hi v a b h hx
      simp only [List.mem_cons, List.not_mem_nil, or_false] at hi
      rcases hi with rfl | rfl
      · exact h
      · exact h
    · intro i hi o ho
      simp only [List.mem_cons, List.not_mem_nil, or_false] at hi
      rcases hi with rfl | rfl | rfl <;> (obtain rfl := Option.some.inj ho)
      · exact OpOk.get RB.refl _ (fun _ => rfl) fun ev w5 v hR E pr => by
          have e1 : ev (.tmp 4) = .pointer (some ⟨w.heap.size + 1, 0, none⟩) := E.was 4 _
          have c0 := (vC.next hR).cell (j := 0) (by omega)
          have c1 := (vC.next hR).cell (j := 1) (by omega)
          simp [lf] at c0 c1
          simp [go_sem, e1, c0, c1]
      · exact OpOk.get RB.refl _ (fun _ => rfl) fun ev w5 v hR E pr => by
          have e1 : ev (.tmp 4) = .pointer (some ⟨w.heap.size + 1, 0, none⟩) := E.was 4 _
          have c0 := (vC.next hR).cell (j := 0) (by omega)
          have c1 := (vC.next hR).cell (j := 1) (by omega)
          simp [lf] at c0 c1
          simp [go_sem, e1, c0, c1]
      · exact OpOk.ret _ (fun _ => rfl) fun ev w5 v hR E pr => by
          have e1 : ev (.tmp 29) = .agg #[.slice ao k cap, .slice none 0 0] := E.get pr 1 29
          refine ⟨24, #[.agg #[.slice ao k cap, .slice none 0 0]], by simp [go_sem, e1, E.fn], ?_⟩
          have h1 := clusterOk_gen newQ (newL p k) ao cap none 0 0 (by rw [newL_len]; omega) (by omega) w5 (hlr.next hR) (fun W q hq hRW => by
            obtain ⟨i, hi⟩ := List.getElem?_of_mem hq
            have hik : i < k := by
              rcases Nat.lt_or_ge i k with z | z
              · exact z
              · rw [List.getElem?_eq_none (by rw [newL_len]; exact z)] at hi; cases hi
            rw [newL_at p hik] at hi
            obtain rfl := Option.some.inj hi
            exact nodeOk_nil p i a W (keep_cell (RB.trans _ _ _ hb (RB.trans _ _ _ hR hRW)) (Nat.le_refl _) hV))
          rw [newL_len, hcb] at h1
          exact h1
    · refine late_skip rfl (late_skip rfl (late_skip rfl (late_skip rfl (late_cons ?_ trivial))))
      exact LateOk.get _ (fun _ => rfl) fun ev w5 v hR E pr => by
        have e1 : ev (.tmp 30) = .bool (decide (1 ≤ p)) := E.kept pr 2 30
        simp [go_sem, e1]
    · intro ev w5 v hR E hp
      have E1 : ev (.tmp 28) = .agg #[.slice ao k cap, .slice none 0 0] := E.get hp 0 28
      have E2 : ev (.tmp 2) = .pointer (some ⟨w.heap.size, 0, none⟩) := E.was 2 _
      have vR' := vR.next hR
      have hg : w5.grownBy (setL w5 w.heap.size 0 [.slice ao k cap, .slice none 0 0]) (some w.heap.size) := gr_setL _ _ 0 _
      have hT : ∀ x, some w.heap.size = some x → Typed w5 x 25 := fun x e => by cases e; exact vR'.typed
      exact ⟨_, exec_box [.slice ao k cap, .slice none 0 0] rfl E2 E1 vR' (by kernel_rfl) (oneAll (by kernel_rfl)), ⟨hg, vR'.typed⟩, vhas_box _ vR', GOwn.gr (hO.next hR) hg hT (by decide), gr_rb (RB.trans _ _ _ hb hR) hg (Nat.le_refl _)⟩
    · rintro v8 w8 ⟨hv9, hO9, hb9⟩ hk
      have k4 : v8 4 = .bool (decide (1 ≤ p)) := hk 4 (by decide) (Nat.le_of_ble_eq_true (by kernel_rfl)) (by decide)
      simp only [putL, Nat.zero_add, Nat.reduceAdd, Act.put, List.setIfInBounds_toArray, List.set_cons_zero, List.set_cons_succ, k4]
      have q0 := hv9.cell (j := 0) (by simp)
      have q1 := hv9.cell (j := 1) (by simp)
      simp [lf] at q0 q1
      go_wp2
      refine bodyPost_ret (v := .tuple #[.agg #[.slice ao k cap, .slice none 0 0], .bool (decide (1 ≤ p))]) (by simp [results, Tryd.results6, go_sem, q0, q1]) rfl ?_
      have hkk := HKK.out
      have e1 : nK p = k := by
        unfold nK
        split <;> omega
      have e2 : nB p = decide (1 ≤ p) := by
        simp only [nB, decide_eq_decide]
        omega
      unfold NcAns
      rw [e1, e2]
      exact ⟨ao, cap, rfl, hO9, hb9⟩

end Go.Proofs.YticckgmkhgnmfaaDoor
