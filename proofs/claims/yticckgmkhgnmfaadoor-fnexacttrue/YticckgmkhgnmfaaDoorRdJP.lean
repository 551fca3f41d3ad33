/-
  The program's ReadCommand answers as the document's: plainly what the text says. For every text of at most 2^20 bytes.
-/
import Derived.Test.YticckgmkhgnmfaaDoorRdIP
import Derived.Test.YticckgmkhgnmfaaDoorRdWP
set_option linter.unusedVariables false
set_option linter.unusedSimpArgs false
namespace Go.Proofs.YticckgmkhgnmfaaDoor
open Go.RowKit Go.Maps
attribute [local go_sem ↓] Go.wp_at_zero Go.wp_at_succ

theorem okC_cmd {nm : List UInt8} {ns ns' : List Int} {K : Int} (h : cmdOf nm ns = some (K, ns')) :
    cmdB (kOf (some (K, ns'))) ((lOf (some (K, ns'))).length / 3) (at3 (lOf (some (K, ns'))) 0) (at3 (lOf (some (K, ns'))) 1) (at3 (lOf (some (K, ns'))) 2) (aOf (some (K, ns')) 0) (aOf (some (K, ns')) 1) = okC K ns' := by
  unfold cmdOf at h
  split at h
  · split at h
    · simp at h
      obtain ⟨rfl, rfl⟩ := h
      simp [kOf, lOf, aOf, okC, cmdB]
    · cases h
  split at h
  · split at h
    · simp at h
      obtain ⟨rfl, rfl⟩ := h
      simp [kOf, lOf, aOf, okC]
    · cases h
  split at h
  · split at h
    · simp at h
      obtain ⟨rfl, rfl⟩ := h
      simp [kOf, lOf, aOf, okC, cmdB]
    · cases h
  · cases h

set_option maxHeartbeats 4000000 in
set_option maxRecDepth 20000 in
theorem implRead_any (s : ByteArray) (hs : s.size ≤ 1048576) (w : World) :
    Calls Tryd.prog 39 #[.string s] w fun e w' => CAns w w' e (onlyOk (rdI s.data.toList)) := by
  obtain ⟨R, hR⟩ : ∃ R, R = onlyOk (rdI s.data.toList) := ⟨_, rfl⟩
  rw [← hR]
  have HR : Hid (R = onlyOk (rdI s.data.toList)) := hR
  clear hR
  have v1 := c4_new w (.int .i64 0) (.slice none 0 0) (.int .i64 0) (.int .i64 0) 62
  have hB := (Below.refl w.heap.size w).alloc (Nat.le_refl _) (.cells #[.int .i64 0, .slice none 0 0, .int .i64 0, .int .i64 0] 62)
  go_enter Tryd.func39, Tryd.ntmps39
  go_wp2_with fail
  generalize (w.alloc (.cells #[.int .i64 0, .slice none 0 0, .int .i64 0, .int .i64 0] 62)) = W at v1 hB ⊢
  refine (readWords_any s hs _).mono ?_
  rintro e w1 ⟨nm, ns, ok, go, gc, rfl, hT, h30, hO, hb1⟩
  replace v1 := v1.next hb1
  replace hB := below_next hB (Nat.le_refl _) hb1
  have hl1 := v1.lt
  clear hb1
  rcases hT with ⟨rfl, hT⟩ | ⟨rfl, hT⟩
  rotate_left
  · have HE : Hid (R = none) := by
      show _ = _
      rw [HR.out]
      unfold rdI
      rw [hT]
      rfl
    have r0 := v1.cell (j := 0) (by omega)
    have r1 := v1.cell (j := 1) (by omega)
    have r2 := v1.cell (j := 2) (by omega)
    have r3 := v1.cell (j := 3) (by omega)
    have fz := fun j => v1.frozen j
    clear HR hT
    go_wp2
    obtain ⟨q0, q1, q2, q3⟩ := st4 v1 (.int .i64 0) (.slice none 0 0) (.int .i64 0) (.int .i64 0)
    exact bodyPost_ret (v := .tuple #[.agg #[.int .i64 0, .slice none 0 0, .int .i64 0, .int .i64 0], .bool false]) (by simp [results, Tryd.results39, go_sem, q0, q1, q2, q3]) rfl (by rw [HE.out]; exact ⟨none, 0, rfl, owns_none _ _ _ _, st4_below hB (Nat.le_refl _) _ _ _ _⟩)
  have HR2 : Hid (R = onlyOk (cmdOf nm.data.toList ns)) := by
    show _ = _
    rw [HR.out]
    unfold rdI
    rw [hT]
  clear HR hT
  go_wp2_with fail
  refine (commandOf_any nm go gc _ ns h30 _ hO).mono ?_
  rintro e w2 ⟨K, ao, n, cap, a, b, rfl, hn, hd, hb2⟩
  replace v1 := v1.next hb2
  have hsz1 := hB.size
  replace hB := below_next hB (Nat.le_refl _) hb2
  clear hb2 hO
  have hal := (Below.refl w2.heap.size w2).alloc (Nat.le_refl _) (.cells #[.int .i64 K, .slice ao n cap, .int .i64 a, .int .i64 b] 62)
  replace v1 := v1.next hal
  have v2 := c4_new w2 (.int .i64 K) (.slice ao n cap) (.int .i64 a) (.int .i64 b) 62
  replace hB := below_next hB (Nat.le_refl _) hal
  cases hr : cmdOf nm.data.toList ns with
  | none =>
    have HE : Hid (R = none) := by
      show _ = _
      rw [HR2.out, hr]
      rfl
    have r0 := v1.cell (j := 0) (by omega)
    have r1 := v1.cell (j := 1) (by omega)
    have r2 := v1.cell (j := 2) (by omega)
    have r3 := v1.cell (j := 3) (by omega)
    have fz := fun j => v1.frozen j
    clear HR2 hr hd hal v2
    simp only [Option.isSome_none]
    go_wp2
    obtain ⟨q0, q1, q2, q3⟩ := st4 v1 (.int .i64 0) (.slice none 0 0) (.int .i64 0) (.int .i64 0)
    exact bodyPost_ret (v := .tuple #[.agg #[.int .i64 0, .slice none 0 0, .int .i64 0, .int .i64 0], .bool false]) (by simp [results, Tryd.results39, go_sem, q0, q1, q2, q3]) rfl (by rw [HE.out]; exact ⟨none, 0, rfl, owns_none _ _ _ _, st4_below hB (Nat.le_refl _) _ _ _ _⟩)
  | some r =>
    obtain ⟨K', ns'⟩ := r
    rw [hr] at hd
    obtain ⟨e1, e2, e3, e4, hOS⟩ := hd rfl
    have hOS1 := hOS.nxt hal
    have HCO : Hid (∀ W, Row W ao n (at3 (lOf (some (K', ns'))) 0) (at3 (lOf (some (K', ns'))) 1) (at3 (lOf (some (K', ns'))) 2) → Calls Tryd.prog 65 #[.agg #[.int .i64 K, .slice ao n cap, .int .i64 a, .int .i64 b]] W fun e w' => e = .returned (.bool (okC K' ns')) ∧ Below W.heap.size W w') := fun W h => by
      have := implCommandOk_any K ao n cap _ _ _ a b (by omega) W h
      rw [e1, e2, e3, e4, okC_cmd hr] at this
      rw [e1, e2, e3, e4]
      exact this
    have HR3 : Hid (R = if okC K' ns' = true then some (K', ns') else none) := by
      show _ = _
      rw [HR2.out, hr]
      rfl
    have HF : Hid (K = kOf (some (K', ns')) ∧ n = (lOf (some (K', ns'))).length / 3 ∧ a = aOf (some (K', ns')) 0 ∧ b = aOf (some (K', ns')) 1) := ⟨e1, e2, e3, e4⟩
    simp only [Option.isSome_some]
    clear HR2 hr hd e1 e2 e3 e4 hOS hal
    have hrow : Row (w2.alloc (.cells #[.int .i64 K, .slice ao n cap, .int .i64 a, .int .i64 b] 62)) ao n (at3 (lOf (some (K', ns'))) 0) (at3 (lOf (some (K', ns'))) 1) (at3 (lOf (some (K', ns'))) 2) := OwnS.row hOS1
    go_wp2_with fail
    generalize (w2.alloc (.cells #[.int .i64 K, .slice ao n cap, .int .i64 a, .int .i64 b] 62)) = X at v1 v2 hB hOS1 hrow ⊢
    refine (HCO.out _ hrow).mono ?_
    rintro e w3 ⟨rfl, hb3⟩
    replace v1 := v1.next hb3
    replace v2 := v2.next hb3
    replace hB := below_next hB (Nat.le_refl _) hb3
    replace hOS1 := hOS1.nxt hb3
    have s0 : w3.cell? ⟨w2.heap.size, 0, none⟩ = some (.int .i64 K) := v2.cell (j := 0) (by omega)
    have s1 : w3.cell? ⟨w2.heap.size, 1, none⟩ = some (.slice ao n cap) := v2.cell (j := 1) (by omega)
    have s2 : w3.cell? ⟨w2.heap.size, 2, none⟩ = some (.int .i64 a) := v2.cell (j := 2) (by omega)
    have s3 : w3.cell? ⟨w2.heap.size, 3, none⟩ = some (.int .i64 b) := v2.cell (j := 3) (by omega)
    have r0 := v1.cell (j := 0) (by omega)
    have r1 := v1.cell (j := 1) (by omega)
    have r2 := v1.cell (j := 2) (by omega)
    have r3 := v1.cell (j := 3) (by omega)
    have fz := fun j => v1.frozen j
    clear hb3 v2 HCO hrow
    cases hok : okC K' ns'
    · have HE : Hid (R = none) := by
        show _ = _
        rw [HR3.out, hok]
        rfl
      clear HR3 HF
      go_wp2
      obtain ⟨q0, q1, q2, q3⟩ := st4 v1 (.int .i64 0) (.slice none 0 0) (.int .i64 0) (.int .i64 0)
      exact bodyPost_ret (v := .tuple #[.agg #[.int .i64 0, .slice none 0 0, .int .i64 0, .int .i64 0], .bool false]) (by simp [results, Tryd.results39, go_sem, q0, q1, q2, q3]) rfl (by rw [HE.out]; exact ⟨none, 0, rfl, owns_none _ _ _ _, st4_below hB (Nat.le_refl _) _ _ _ _⟩)
    · have HE : Hid (R = some (K', ns')) := by
        show _ = _
        rw [HR3.out, hok]
        rfl
      clear HR3
      go_wp2
      obtain ⟨q0, q1, q2, q3⟩ := st4 v1 (.int .i64 K) (.slice ao n cap) (.int .i64 a) (.int .i64 b)
      refine bodyPost_ret (v := .tuple #[.agg #[.int .i64 K, .slice ao n cap, .int .i64 a, .int .i64 b], .bool true]) (by simp [results, Tryd.results39, go_sem, q0, q1, q2, q3]) rfl ?_
      rw [HE.out]
      obtain ⟨e1, e2, e3, e4⟩ := HF.out
      refine ⟨ao, cap, by rw [← e1, ← e2, ← e3, ← e4]; rfl, ?_, st4_below hB (Nat.le_refl _) _ _ _ _⟩
      rw [← e2]
      exact (hOS1.from (by omega)).of_st4 (fun h0 p e => by obtain ⟨x, e5, hb, _⟩ := hOS1 0 h0; rw [e] at e5; cases e5; simp; omega) _ _ _ _

/-- The document's reading of every text. -/
theorem specRead_any (s : ByteArray) (hs : s.size ≤ 1048576) (w : World) :
    Calls Tryd.prog 33 #[.string s] w fun e w' => CAns w w' e (onlyOk (rdS s.data.toList)) := by
  have hl : s.toList = s.data.toList := ByteArray.toList_eq s
  have he : ∀ k, (s.extract 0 k).toList = s.data.toList.take k := fun k => by rw [ByteArray.toList_eq, extract_list]; simp
  have hsz : s.data.toList.length = s.size := by simp
  by_cases hN : s.data.toList = txNone
  · have e : rdS s.data.toList = some (1, []) := by unfold rdS; rw [if_pos hN]
    rw [e]
    exact specRead_none s hs (by rw [hl]; exact beqT hN) w
  have hNb : (s.toList == [110, 111, 110, 101]) = false := by rw [hl]; exact beqF hN
  by_cases hA : 4 < s.size ∧ s.data.toList.take 4 = txAsk ++ [32]
  · have e : rdS s.data.toList = askR (snums (s.data.toList.drop 4) [] []) := by
      unfold rdS
      rw [if_neg hN, if_pos (by rw [hsz]; exact hA)]
      rfl
    rw [e]
    exact specRead_ask s hs hNb hA.1 (by rw [he]; exact beqT hA.2) w
  by_cases hW : 6 < s.size ∧ s.data.toList.take 6 = txWeigh ++ [32]
  · have e : rdS s.data.toList = weighR (snums (s.data.toList.drop 6) [] []) := by
      unfold rdS
      rw [if_neg hN, if_neg (by rw [hsz]; exact hA), if_pos (by rw [hsz]; exact hW)]
      rfl
    rw [e]
    exact specRead_weigh s hs hNb hW.1 (by rw [he]; exact beqF (fun h => hA ⟨by omega, h⟩)) (by rw [he]; exact beqT hW.2) w
  · have e : rdS s.data.toList = none := by
      unfold rdS
      rw [if_neg hN, if_neg (by rw [hsz]; exact hA), if_neg (by rw [hsz]; exact hW)]
    rw [e]
    exact specRead_zero s hs hNb (fun h4 => by rw [he]; exact beqF (fun h => hA ⟨h4, h⟩)) (fun h6 => by rw [he]; exact beqF (fun h => hW ⟨h6, h⟩)) w
theorem implRead_same (s : ByteArray) (hs : s.size ≤ 1048576) (w : World) :
    Calls Tryd.prog 39 #[.string s] w fun e w' => CAns w w' e (onlyOk (rdS s.data.toList)) := by
  rw [← read_same]
  exact implRead_any s hs w

end Go.Proofs.YticckgmkhgnmfaaDoor
