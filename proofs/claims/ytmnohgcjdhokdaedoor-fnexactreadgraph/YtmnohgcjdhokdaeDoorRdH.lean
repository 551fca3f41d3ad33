/-
  The document's ReadGraph.
-/
import Derived.Test.YtmnohgcjdhokdaeDoorRdG
import Derived.Test.YtmnohgcjdhokdaeDoorOkSpec
set_option linter.unusedVariables false
set_option linter.unusedSimpArgs false
namespace Go.Proofs.YtmnohgcjdhokdaeDoor
open Go.RowKit
attribute [local go_sem ↓] Go.wp_at_zero Go.wp_at_succ
set_option maxHeartbeats 2000000 in
theorem specReadGraph_any (s : ByteArray) (hs : s.size ≤ 1048576) (w : World) :
    Calls Tryd.prog 10 #[.string s] w fun e w' => GAns w w' e (gfin (sRead s.data.toList)) ∧ Below w.heap.size w w' := by
  obtain ⟨r, HR⟩ : ∃ r, Hid (r = gfin (sRead s.data.toList)) := ⟨_, rfl⟩
  rw [← HR.out]
  obtain ⟨T, hT⟩ : ∃ T, Hid (snums s.data.toList [] [] = T) := ⟨_, rfl⟩
  go_enter Tryd.func10, Tryd.ntmps10
  have hba : Below w.heap.size w (w.alloc (.cells #[.int .i64 0, .slice none 0 0] 29)) := (Below.refl _ _).alloc (Nat.le_refl _) _
  go_wp2_with fail
  refine (l1Numbers_any s hs _).mono ?_
  rintro e w1 ⟨ns, ok, b, cap, rfl, hor, hlen, hown, hb1⟩
  have vR1 : VHas w1 w.heap.size 29 2 (c2 (.int .i64 0) (.slice none 0 0)) := (graph_new w _ _).next hb1
  have hB1 := below_next hba (Nat.le_refl _) hb1
  have rz := fun j => vR1.frozen j
  have r0 : w1.cell? ⟨w.heap.size, 0, none⟩ = some (.int .i64 0) := vR1.cell (j := 0) (by omega)
  have r1 : w1.cell? ⟨w.heap.size, 1, none⟩ = some (.slice none 0 0) := vR1.cell (j := 1) (by omega)
  obtain ⟨q0, q1⟩ := box_set (v0 := .int .i64 0) (v1 := .slice none 0 0) vR1
  obtain ⟨n, hn⟩ : ∃ n, n = ns.length := ⟨_, rfl⟩
  rw [← hn] at hlen hown ⊢
  have HL : Hid (ns.length = n) := hn.symm
  clear hn
  rcases hor with ⟨rfl, hT1⟩ | ⟨rfl, hT1⟩
  · have HR1 : Hid (r = gfin (if n % 3 ≠ 1 then none else some ns)) := by
      show _ = _
      rw [HR.out]
      unfold sRead
      rw [hT1]
      simp only
      rw [HL.out]
    clear HR hT hT1
    by_cases h3 : (n : Int) % 3 = 1
    · have hI : IHas w1 b n (gd ns) := hown.has
      have HB : Hid (n % 3 = 1) := by show _ = _; omega
      have c0 := hI.cell (j := 0) (by omega)
      have hn0 : (0 : Int) < (n : Int) := by omega
      go_wp2
      clear h3 c0 r0 r1 rz q0 q1
      have HR : Hid (r = gfin (some ns)) := by show _ = _; rw [HR1.out, if_neg (by have := HB.out; omega)]
      have hs2 := hB1.size
      have hs1 : w.heap.size + 1 ≤ w1.heap.size := by have := hb1.size; simp at this; omega
      have hbl0 : w.heap.size + 1 ≤ b := by have := hown.base; simp at this; omega
      have hbl2 : b < w1.heap.size := hI.lt
      have hba2 : Below w1.heap.size w1 (w1.alloc (.cells #[.int .i64 (gd ns 0), .slice none 0 0] 29)) := (Below.refl _ _).alloc (Nat.le_refl _) _
      have vG0 := graph_new w1 (.int .i64 (gd ns 0)) (.slice none 0 0)
      have vR0 := vR1.next hba2
      have hI0 := hI.below hba2 hI.lt
      have hB0 := below_next hB1 (Nat.le_refl _) hba2
      have hz0 : w1.heap.size + 1 ≤ (w1.alloc (.cells #[.int .i64 (gd ns 0), .slice none 0 0] 29)).heap.size := by simp
      generalize (w1.alloc (.cells #[.int .i64 (gd ns 0), .slice none 0 0] 29)) = X0 at vG0 vR0 hI0 hB0 hz0 ⊢
      clear hI vR1 hba2 HR1 hown
      go_loopw [7] (fun x wr => ∃ (m k gc : Nat) (go : Option Addr), Hid (m = 3 * k + 1) ∧ m ≤ n ∧ x = .int .i64 m ∧ VHas wr w1.heap.size 29 2 (c2 (.int .i64 (gd ns 0)) (.slice go k gc)) ∧ VHas wr w.heap.size 29 2 (c2 (.int .i64 0) (.slice none 0 0)) ∧ OwnA wr (w1.heap.size + 1) go k gc (triG ns) ∧ IHas wr b n (gd ns) ∧ w1.heap.size + 1 ≤ wr.heap.size ∧ Below w.heap.size w wr) (fun x _ => n - (intOf x).toNat)
      case atStart => exact ⟨1, 0, 0, none, rfl, by have := HB.out; omega, rfl, vG0, vR0, OwnA.nil _ _ _, hI0, hz0, hB0⟩
      case round =>
        clear vG0 vR0 hI0 hB0 hz0
        obtain ⟨m, k, gc2, go, HM, hm, rfl, vG, vR, hO, hI, hsz, hB⟩ := hrel
        by_cases hlt : m < n
        · have hlt0 : (m : Int) < (n : Int) := by omega
          have hm2 : m + 2 < n := by have := HM.out; have := HB.out; omega
          have hmM := HM.out
          have hn9 : n ≤ 2000000 := by omega
          have hk9 : k ≤ 10000000 := by omega
          have e0 : triG ns (k * 3) = gd ns m := by rw [hmM]; exact triG0 ns k
          have e1 : triG ns (k * 3 + 1) = gd ns (m + 1) := by rw [hmM]; exact triG1 ns k
          have e2 : triG ns (k * 3 + 2) = gd ns (m + 2) := by rw [hmM]; exact triG2 ns k
          clear hmM
          go_wp2_with fail
          refine region_arc (bx := 6) (nb := 4) (ix := 7) (q := 32) (bb := w1.heap.size) (rb := w.heap.size) (B := w1.heap.size + 1) (W0 := w) (by kernel_rfl) (Nat.le_of_ble_eq_true rfl) (by omega) (by omega) (by omega) (fun _ _ _ _ _ h => h) rfl rfl rfl hm2 hn9 hI e0 e1 e2 vG vR hO hk9 (by omega) (by omega) (by omega) (by omega) (by omega) hsz hB (by omega) (by omega) ?_
          intro X9 g' gc' z n2 n1 nO nI nz nB
          simp only [afin, Act.put, List.setIfInBounds_toArray, List.set_cons_zero, List.set_cons_succ, Nat.reduceAdd]
          clear vG vR hO hI hsz hB e0 e1 e2
          go_wp2_with fail
          go_roundw
          case rel => exact ⟨m + 3, k + 1, gc', some ⟨g', 0, none⟩, by show _ = _; have := HM.out; omega, by omega, by go_num, n2, n1, nO, nI, nz, nB⟩
          case measure => simp [intOf]; omega
        · have hlt0 : ¬ (m : Int) < (n : Int) := by omega
          have hmn : m = n := by omega
          have hnG : nG ns = k := by unfold nG; rw [HL.out]; have := HM.out; omega
          have HK : Hid (nG ns = k) := hnG
          clear hnG
          have s0 : wr.cell? ⟨w1.heap.size, 0, none⟩ = some (.int .i64 (gd ns 0)) := vG.cell (j := 0) (by omega)
          have s1 : wr.cell? ⟨w1.heap.size, 1, none⟩ = some (.slice go k gc2) := vG.cell (j := 1) (by omega)
          have hk9 : k ≤ 1048576 := by have := HM.out; omega
          go_wp2_with fail
          refine (specGraphOk_any (gd ns 0) go k gc2 (at3 ns 1) (at3 ns 2) (at3 ns 3) hk9 _ (hO.owns.row)).mono ?_
          rintro e w3 ⟨rfl, hb3⟩
          replace s0 := keep_cell hb3 (Nat.le_refl _) s0
          replace s1 := keep_cell hb3 (Nat.le_refl _) s1
          replace vR := vR.next hb3
          have hOS := (hO.next hb3).owns
          have hB3 := below_next hB (Nat.le_refl _) hb3
          have rz := fun j => vR.frozen j
          have r0 := vR.cell (j := 0) (by omega)
          have r1 := vR.cell (j := 1) (by omega)
          cases hok : graphB (gd ns 0) k (at3 ns 1) (at3 ns 2) (at3 ns 3)
          · have HE : Hid (r = none) := by show _ = _; rw [HR.out]; unfold gfin; simp only; rw [HK.out, hok]; rfl
            obtain ⟨q0, q1⟩ := box_set (v0 := .int .i64 0) (v1 := .slice none 0 0) vR
            clear HR
            go_wp2
            exact bodyPost_ret (v := .tuple #[.agg #[.int .i64 0, .slice none 0 0], .bool false]) (by simp [results, Tryd.results10, go_sem, q0, q1]) rfl ⟨by unfold GAns; rw [HE.out], box_below hB3 (Nat.le_refl _)⟩
          · have HE : Hid (r = some ns) := by show _ = _; rw [HR.out]; unfold gfin; simp only; rw [HK.out, hok]; rfl
            obtain ⟨q0, q1⟩ := box_set (v0 := .int .i64 (gd ns 0)) (v1 := .slice go k gc2) vR
            have hOF : OwnS ((w3.setCell ⟨w.heap.size, 0, none⟩ (.int .i64 (gd ns 0))).setCell ⟨w.heap.size, 1, none⟩ (.slice go k gc2)) w.heap.size go k (triG ns) := fun j hj => by
              obtain ⟨b', e1, e2, e3⟩ := hOS j hj
              exact ⟨b', e1, by omega, e3.of_block (ret_block _ _ (by omega))⟩
            clear HR
            go_wp2
            exact bodyPost_ret (v := .tuple #[.agg #[.int .i64 (gd ns 0), .slice go k gc2], .bool true]) (by simp [results, Tryd.results10, go_sem, q0, q1]) rfl ⟨by unfold GAns; rw [HE.out]; simp only; rw [HK.out]; exact ⟨_, _, rfl, hOF⟩, box_below hB3 (Nat.le_refl _)⟩
    · have HE : Hid (r = none) := by show _ = _; rw [HR1.out, if_pos (by omega)]; rfl
      have h3' : ((n : Int) % 3 != 1) = true := by rw [bne_iff_ne]; exact h3
      clear h3 HR1
      go_wp2
      exact bodyPost_ret (v := .tuple #[.agg #[.int .i64 0, .slice none 0 0], .bool false]) (by simp [results, Tryd.results10, go_sem, q0, q1]) rfl ⟨by unfold GAns; rw [HE.out], box_below hB1 (Nat.le_refl _)⟩
  · have HE : Hid (r = none) := by show _ = _; rw [HR.out]; unfold sRead; rw [hT1]; rfl
    clear HR hT hT1
    go_wp2
    exact bodyPost_ret (v := .tuple #[.agg #[.int .i64 0, .slice none 0 0], .bool false]) (by simp [results, Tryd.results10, go_sem, q0, q1]) rfl ⟨by unfold GAns; rw [HE.out], box_below hB1 (Nat.le_refl _)⟩
end Go.Proofs.YtmnohgcjdhokdaeDoor
