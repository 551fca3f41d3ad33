/-
  The document's NewCluster.
-/
import Derived.Test.YticckgmkhgnmfaaDoorCluN
import Derived.Test.YticckgmkhgnmfaaDoorNewS
import Derived.Test.YticckgmkhgnmfaaDoorOkA
set_option linter.unusedVariables false
set_option linter.unusedSimpArgs false
namespace Go.Proofs.YticckgmkhgnmfaaDoor
open Go Go.RowKit
attribute [local go_sem ↓] Go.wp_at_zero Go.wp_at_succ

set_option maxRecDepth 100000 in
set_option maxHeartbeats 8000000 in
theorem specNewCluster_any (p : Int) (w : World) : Calls Tryd.prog 5 #[.int .i64 p] w fun e w' => NcAns w w' e p := by
  have hb := RB.alloc w (.cells #[.slice none 0 0, .slice none 0 0] 25)
  have vR : VHas _ w.heap.size 25 2 (lf [.slice none 0 0, .slice none 0 0]) := box_new w [.slice none 0 0, .slice none 0 0] 25
  rcases Bool.eq_false_or_eq_true (inB p 1 5) with hin | hin
  rotate_left
  · go_enter Tryd.func5, Tryd.ntmps5
    go_wp2_with fail
    generalize (w.alloc (.cells #[.slice none 0 0, .slice none 0 0] 25)) = W at hb vR ⊢
    refine (l1In_any p 1 5 _).mono ?_
    rintro e w1 ⟨rfl, hw1⟩
    subst hw1
    rw [hin]
    go_wp2_with (first | (with_reducible refine wpList_store_box rfl 25 (.tmp 2) (.tmp 11) rfl rfl w.heap.size [.slice none 0 0, .slice none 0 0] (by simp [go_sem]) (by simp [go_sem]) vR (by kernel_rfl) (oneAll (by kernel_rfl)) ?_; intro W9 hv9 hg9) | fail)
    have q0 := hv9.cell (j := 0) (by simp)
    have q1 := hv9.cell (j := 1) (by simp)
    simp [lf] at q0 q1
    have hno : ¬ (1 ≤ p ∧ p ≤ 5) := fun h => by simp [inB] at hin; omega
    exact bodyPost_ret (v := .tuple #[.agg #[.slice none 0 0, .slice none 0 0], .bool false]) (by simp [results, Tryd.results5, go_sem, q0, q1]) rfl (ncans_zero hno (gr_rb hb hg9 (Nat.le_refl _)))
  have hpi : 1 ≤ p ∧ p ≤ 5 := by simp [inB] at hin; omega
  obtain ⟨K, hK⟩ : ∃ K, K = p.toNat := ⟨_, rfl⟩
  have HKK : Hid (K = p.toNat) := hK
  have hK5 : K ≤ 5 := by omega
  clear hK
  go_enter Tryd.func5, Tryd.ntmps5
  go_wp2_with fail
  generalize (w.alloc (.cells #[.slice none 0 0, .slice none 0 0] 25)) = W at hb vR ⊢
  refine (l1In_any p 1 5 _).mono ?_
  rintro e w1 ⟨rfl, hw1⟩
  subst hw1
  rw [hin]
  have hal0 := RB.alloc w1 (.cells #[.slice none 0 0, .slice none 0 0] 25)
  have vC : VHas (w1.alloc (.cells #[.slice none 0 0, .slice none 0 0] 25)) w1.heap.size 25 2 (lf [.slice none 0 0, .slice none 0 0]) := box_new w1 [.slice none 0 0, .slice none 0 0] 25
  have hbC : w.heap.size < w1.heap.size := vR.lt
  replace vR := vR.next hal0
  replace hb := RB.trans _ _ _ hb hal0
  go_wp2
  generalize (w1.alloc (.cells #[.slice none 0 0, .slice none 0 0] 25)) = W at hb vR vC ⊢
  generalize w1.heap.size = bC at vC hbC ⊢
  clear hal0
  go_loopw [5, 6, 7] (fun x5 x6 x7 wr => ∃ (k : Nat) (ao : Option Addr) (cap : Nat), k ≤ K ∧ x5 = .int .i64 (k : Int) ∧ GOwn wr w.heap.size 51 10 ao k cap (lf (clc (newL p k))) ∧ VHas wr w.heap.size 25 2 (lf [.slice none 0 0, .slice none 0 0]) ∧ VHas wr bC 25 2 (lf [.slice ao k cap, .slice none 0 0]) ∧ RB w wr) (fun x _ _ _ => K - (intOf x).toNat)
  case atStart => exact ⟨0, none, 0, Nat.zero_le _, rfl, GOwn.nil _ _ _ _ _, vR, vC, hb⟩
  case round =>
    obtain ⟨k, ao, cap, hk, rfl, hO, vR, vC, hb⟩ := hrel
    by_cases hlt : k < K
    · have hltp : (k : Int) < p := by have := HKK.out; omega
      have hnw : newB k p = true := by
        have := HKK.out
        simp [newB]
        omega
      have hw1 : IntKind.i64.wrap ((k : Int) + 1) = (k : Int) + 1 := by rw [IntKind.wrap_i64]; omega
      go_wp2_with fail
      refine (specNewNode_any k p _).mono ?_
      rintro e w1 ⟨rfl, hb1⟩
      rw [hnw]
      simp only [if_true]
      obtain ⟨nd, hnd⟩ : ∃ nd, nd = newN k p := ⟨_, rfl⟩
      have HND : Hid (nd = newN k p) := hnd
      rw [show (Value.agg #[.int .i64 (k : Int), .int .i64 p, .int .i64 0, .int .i64 (-1), .slice none 0 0, .int .i64 1, .int .i64 0, .slice none 0 0, .slice none 0 0, .slice none 0 0]) = ndV nd ns0 by rw [hnd]; rfl]
      clear hnd
      replace vR := vR.next hb1
      replace vC := vC.next hb1
      replace hO := hO.next hb1
      replace hb := RB.trans _ _ _ hb hb1
      have hal := RB.alloc w1 (.cells (ndL nd ns0).toArray 51)
      have vN := ndB_new w1 nd ns0
      replace vR := vR.next hal
      replace vC := vC.next hal
      replace hO := hO.next hal
      replace hb := RB.trans _ _ _ hb hal
      have hal2 := RB.alloc (w1.alloc (.cells (ndL nd ns0).toArray 51)) (.cells (ndL nd ns0).toArray 51)
      have vL := ndB_new (w1.alloc (.cells (ndL nd ns0).toArray 51)) nd ns0
      have y0 := vC.cell (j := 0) (by omega)
      simp [lf] at y0
      obtain ⟨c0, c1, c2, c3, c4, c5, c6, c7, c8, c9⟩ := VHas.c10 vN
      simp [lf] at c0 c1 c2 c3 c4 c5 c6 c7 c8 c9
      replace vC := vC.next hal2
      replace vR := vR.next hal2
      replace hO := hO.next hal2
      replace hb := RB.trans _ _ _ hb hal2
      have hgr : GRow ((w1.alloc (.cells (ndL nd ns0).toArray 51)).alloc (.cells (ndL nd ns0).toArray 51)) (some ⟨(w1.alloc (.cells (ndL nd ns0).toArray 51)).heap.size, 0, none⟩) (1 * 10) (lf (ndL nd ns0)) := vhas_grow vL
      have hon : ∀ j, j < 1 * 10 → (lf (ndL nd ns0) j).oneCell' = true := fun j hj => ndL_one ⟨nd, ns0⟩ j (by omega)
      have hlen : k + 1 ≤ 100000000 := by omega
      have hsz := hb.size
      clear hb1 hal hal2 vN vL
      go_wp2_with (first | (at_builtin; with_reducible refine wpList_appR rfl (.tmp 25) (.tmp 27) Tryd.elQ rfl 28 rfl w.heap.size _ ao k cap (by simp [go_sem]) hO (some ⟨(w1.alloc (.cells (ndL nd ns0).toArray 51)).heap.size, 0, none⟩) 1 1 (lf (ndL nd ns0)) (by simp [go_sem]) hgr hon hlen hsz ?_; intro ao' cap' w2 hown hg; have hT : ∀ x, (Value.slice ao k cap).ownBlock = some x → Typed _ x 51 := fun x e => hO.typed e; replace vC := VHas.gr vC hg hT (by decide); replace vR := VHas.gr vR hg hT (by decide); replace hb := rb_row hb hg (fun x e => (hO.at e).1); clear hg hT) | (with_reducible refine wpList_cell rfl 22 (.tmp 29) (.tmp 28) rfl rfl bC 0 (.slice ao' (k + 1) cap') (by simp [go_sem]) (by simp [go_sem]) vC (by omega) (by kernel_rfl) rfl (oneV (by kernel_rfl)) ?_; intro W3 hW3) | fail)
      have hg3 := gr_setCell w2 bC 0 (.slice ao' (k + 1) cap')
      have hT3 : ∀ x, some bC = some x → Typed w2 x 25 := fun x e => by cases e; exact vC.typed
      have vC3 := vC.set 0 (.slice ao' (k + 1) cap')
      have hown3 := clc_more (q := ⟨nd, ns0⟩) (newL_len p k) hown
      rw [HND.out] at hown3
      replace hown3 : GOwn w2 w.heap.size 51 10 ao' (k + 1) cap' (lf (clc (newL p (k + 1)))) := hown3
      go_roundw
      case rel =>
        exact ⟨k + 1, ao', cap', by omega, by go_num, GOwn.gr hown3 hg3 hT3 (by decide), vR.grown hg3 (fun e => by have := Option.some.inj e; omega), vC3.congr (fun j hj => by
          have : j = 0 ∨ j = 1 := by omega
          rcases this with rfl | rfl <;> simp [lf]), gr_rb hb hg3 (by omega)⟩
      case measure => simp [intOf]; omega
    obtain rfl : k = K := by omega
    have hge : ¬ (k : Int) < p := by have := HKK.out; omega
    have y0 := vC.cell (j := 0) (by omega)
    have y1 := vC.cell (j := 1) (by omega)
    simp [lf] at y0 y1
    go_wp2_with (first | (with_reducible refine wpList_store_box rfl 25 (.tmp 2) (.tmp 30) rfl rfl w.heap.size [.slice ao k cap, .slice none 0 0] (by simp [go_sem]) (by simp [go_sem]) vR (by kernel_rfl) (oneAll (by kernel_rfl)) ?_; intro W9 hv9 hg9) | fail)
    have q0 := hv9.cell (j := 0) (by simp)
    have q1 := hv9.cell (j := 1) (by simp)
    simp [lf] at q0 q1
    have hT9 : ∀ x, some w.heap.size = some x → Typed wr x 25 := fun x e => by cases e; exact vR.typed
    refine bodyPost_ret (v := .tuple #[.agg #[.slice ao k cap, .slice none 0 0], .bool true]) (by simp [results, Tryd.results5, go_sem, q0, q1]) rfl ?_
    have hkk := HKK.out
    have e1 : nK p = k := by
      unfold nK
      split <;> omega
    have e2 : nB p = true := by
      simp only [nB, decide_eq_true_eq]
      omega
    unfold NcAns
    rw [e1, e2]
    exact ⟨ao, cap, rfl, GOwn.gr hO hg9 hT9 (by decide), gr_rb hb hg9 (Nat.le_refl _)⟩

end Go.Proofs.YticckgmkhgnmfaaDoor
