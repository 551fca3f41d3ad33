/-
  The program's ReadCommand: what it reads, plainly; it is the document's. For every text of at most 2^20 bytes.
-/
import Derived.Test.YticckgmkhgnmfaaDoorPack6
import Derived.Test.YticckgmkhgnmfaaDoorCmdP
set_option linter.unusedVariables false
set_option linter.unusedSimpArgs false
namespace Go.Proofs.YticckgmkhgnmfaaDoor
open Go.RowKit Go.Maps
attribute [local go_sem ↓] Go.wp_at_zero Go.wp_at_succ

theorem beqT' {l m : List UInt8} (h : l = m) : (l == m) = true := by simp [h]
theorem beqF' {l m : List UInt8} (h : l ≠ m) : (l == m) = false := by simp [h]
/-- A command out of a name and numbers, and whether their number is right. -/
def DAns (w w' : World) (e : Ending) (r : Option (Int × List Int)) : Prop :=
  ∃ (K : Int) (ao : Option Addr) (n cap : Nat) (a b : Int), e = .returned (.tuple #[.agg #[.int .i64 K, .slice ao n cap, .int .i64 a, .int .i64 b], .bool r.isSome]) ∧ n ≤ 1000 ∧
    (r.isSome = true → K = kOf r ∧ n = (lOf r).length / 3 ∧ a = aOf r 0 ∧ b = aOf r 1 ∧ OwnS w' w.heap.size ao n (tri (lOf r))) ∧ Below w.heap.size w w'
theorem dans_no {w w' : World} {K : Int} {ao : Option Addr} {n cap : Nat} {a b : Int} (hn : n ≤ 1000) (hB : Below w.heap.size w w') : DAns w w' (.returned (.tuple #[.agg #[.int .i64 K, .slice ao n cap, .int .i64 a, .int .i64 b], .bool false])) none :=
  ⟨K, ao, n, cap, a, b, rfl, hn, (fun h => by cases h), hB⟩
theorem dans_none {w w' : World} (hB : Below w.heap.size w w') : DAns w w' (.returned (.tuple #[.agg #[.int .i64 1, .slice none 0 0, .int .i64 0, .int .i64 0], .bool true])) (some (1, [])) :=
  ⟨1, none, 0, 0, 0, 0, rfl, by omega, fun _ => ⟨rfl, by simp [lOf], by simp [aOf], by simp [aOf], owns_none _ _ _ _⟩, hB⟩
theorem dans_ask {w w' : World} {x y : Int} (hB : Below w.heap.size w w') : DAns w w' (.returned (.tuple #[.agg #[.int .i64 3, .slice none 0 0, .int .i64 x, .int .i64 y], .bool true])) (some (3, [x, y])) :=
  ⟨3, none, 0, 0, x, y, rfl, by omega, fun _ => ⟨rfl, by simp [lOf], by simp [aOf], by simp [aOf], owns_none _ _ _ _⟩, hB⟩
theorem dans_weigh {w w' : World} {ns : List Int} {ao : Option Addr} {n cap : Nat} (h9 : n ≤ 1000) (hn : ns.length / 3 = n) (hO : OwnS w' w.heap.size ao n (tri ns)) (hB : Below w.heap.size w w') : DAns w w' (.returned (.tuple #[.agg #[.int .i64 2, .slice ao n cap, .int .i64 0, .int .i64 0], .bool true])) (some (2, ns)) :=
  ⟨2, ao, n, cap, 0, 0, rfl, h9, fun _ => ⟨rfl, by simp [lOf, hn], by simp [aOf], by simp [aOf], by simp [lOf]; exact hO⟩, hB⟩

set_option maxHeartbeats 4000000 in
set_option maxRecDepth 20000 in
theorem commandOf_any (nm : ByteArray) (go : Option Addr) (gc B : Nat) (ns : List Int) (h30 : ns.length ≤ 30) (w : World) (hO : OwnE w B go ns.length gc (gd ns)) :
    Calls Tryd.prog 64 #[.string nm, .slice go ns.length gc] w fun e w' => DAns w w' e (cmdOf nm.data.toList ns) := by
  have v1 := c4_new w (.int .i64 0) (.slice none 0 0) (.int .i64 0) (.int .i64 0) 62
  have hal := (Below.refl w.heap.size w).alloc (Nat.le_refl _) (.cells #[.int .i64 0, .slice none 0 0, .int .i64 0, .int .i64 0] 62)
  have hO1 := hO.next hal
  obtain ⟨R, hR⟩ : ∃ R, R = cmdOf nm.data.toList ns := ⟨_, rfl⟩
  rw [← hR]
  rw [← ByteArray.toList_eq] at hR
  have HR : Hid (R = cmdOf nm.toList ns) := hR
  clear hR
  by_cases hno : nm.toList = [110, 111, 110, 101]
  · have hnb : (nm.toList == [110, 111, 110, 101]) = true := beqT' hno
    have HE : Hid (R = if ns.length = 0 then some (1, []) else none) := by
      show _ = _
      rw [HR.out, hno]
      rfl
    clear HR hno
    by_cases h0 : ns.length = 0
    · have h0' : (ns.length : Int) = 0 := by omega
      have HE2 : Hid (R = some (1, [])) := by
        show _ = _
        rw [HE.out, if_pos h0]
      clear HE h0
      go_enter Tryd.func64, Tryd.ntmps64
      go_wp2
      exact bodyPost_ret (v := .tuple #[.agg #[.int .i64 1, .slice none 0 0, .int .i64 0, .int .i64 0], .bool true]) (by simp [results, Tryd.results64, go_sem]) rfl (by rw [HE2.out]; exact dans_none (by first | exact hal | exact (Below.refl w.heap.size w).alloc (Nat.le_refl _) _))
    · have h0' : ((ns.length : Int) == 0) = false := by rw [beq_eq_false_iff_ne]; omega
      have HE2 : Hid (R = none) := by
        show _ = _
        rw [HE.out, if_neg h0]
      clear HE h0
      go_enter Tryd.func64, Tryd.ntmps64
      go_wp2
      exact bodyPost_ret (v := .tuple #[.agg #[.int .i64 1, .slice none 0 0, .int .i64 0, .int .i64 0], .bool false]) (by simp [results, Tryd.results64, go_sem]) rfl (by rw [HE2.out]; exact dans_no (by omega) (by first | exact hal | exact (Below.refl w.heap.size w).alloc (Nat.le_refl _) _))
  have hnb : (nm.toList == [110, 111, 110, 101]) = false := beqF' hno
  by_cases hwe : nm.toList = [119, 101, 105, 103, 104]
  · have hwb : (nm.toList == [119, 101, 105, 103, 104]) = true := beqT' hwe
    have HE : Hid (R = if ns.length % 3 = 0 then some (2, ns) else none) := by
      show _ = _
      rw [HR.out, hwe]
      rfl
    clear HR hno hwe
    obtain ⟨m, hm⟩ : ∃ m, ns.length / 3 = m := ⟨_, rfl⟩
    have HA : Hid (∀ W, OwnE W B go ns.length gc (gd ns) → Calls Tryd.prog 83 #[.slice go ns.length gc] W fun e w' => e = .returned (.slice (some ⟨W.heap.size, 0, none⟩) m m) ∧ Own w' W.heap.size m (tri ns) ∧ Below W.heap.size W w') := fun W h => arcsOf_any go gc B ns ns.length m rfl hm (by omega) W h
    have HM : Hid (ns.length / 3 = m) := hm
    have hm9 : m ≤ 1000 := by omega
    clear hm
    by_cases h0 : ns.length % 3 = 0
    · have h0' : (ns.length : Int) % 3 = 0 := by omega
      have HE2 : Hid (R = some (2, ns)) := by
        show _ = _
        rw [HE.out, if_pos h0]
      clear HE h0
      go_enter Tryd.func64, Tryd.ntmps64
      go_wp2_with fail
      refine (HA.out _ hO1).mono ?_
      rintro e w1 ⟨rfl, hown, hb1⟩
      replace v1 := v1.next hb1
      have hB := below_next hal (Nat.le_refl _) hb1
      have r0 := v1.cell (j := 0) (by omega)
      have r1 := v1.cell (j := 1) (by omega)
      have r2 := v1.cell (j := 2) (by omega)
      have r3 := v1.cell (j := 3) (by omega)
      have fz := fun j => v1.frozen j
      simp only [World.size_alloc] at hown ⊢
      clear hb1
      go_wp2
      obtain ⟨q0, q1, q2, q3⟩ := st4 v1 (.int .i64 2) (.slice (some ⟨w.heap.size + 1, 0, none⟩) m m) (.int .i64 0) (.int .i64 0)
      exact bodyPost_ret (v := .tuple #[.agg #[.int .i64 2, .slice (some ⟨w.heap.size + 1, 0, none⟩) m m, .int .i64 0, .int .i64 0], .bool true]) (by simp [results, Tryd.results64, go_sem, q0, q1, q2, q3]) rfl (by rw [HE2.out]; exact dans_weigh hm9 HM.out (OwnS.of_st4 (fun k hk => ⟨w.heap.size + 1, rfl, by omega, Has.of_own hown⟩) (fun _ a e => by cases e; simp) _ _ _ _) (st4_below hB (Nat.le_refl _) _ _ _ _))
    · have h0' : ¬ (ns.length : Int) % 3 = 0 := by omega
      have h0b : ((ns.length : Int) % 3 == 0) = false := by simpa using h0'
      have HE2 : Hid (R = none) := by
        show _ = _
        rw [HE.out, if_neg h0]
      clear HE h0
      go_enter Tryd.func64, Tryd.ntmps64
      go_wp2_with fail
      refine (HA.out _ hO1).mono ?_
      rintro e w1 ⟨rfl, hown, hb1⟩
      replace v1 := v1.next hb1
      have hB := below_next hal (Nat.le_refl _) hb1
      have r0 := v1.cell (j := 0) (by omega)
      have r1 := v1.cell (j := 1) (by omega)
      have r2 := v1.cell (j := 2) (by omega)
      have r3 := v1.cell (j := 3) (by omega)
      have fz := fun j => v1.frozen j
      simp only [World.size_alloc] at hown ⊢
      clear hb1
      go_wp2
      obtain ⟨q0, q1, q2, q3⟩ := st4 v1 (.int .i64 2) (.slice (some ⟨w.heap.size + 1, 0, none⟩) m m) (.int .i64 0) (.int .i64 0)
      exact bodyPost_ret (v := .tuple #[.agg #[.int .i64 2, .slice (some ⟨w.heap.size + 1, 0, none⟩) m m, .int .i64 0, .int .i64 0], .bool false]) (by simp [results, Tryd.results64, go_sem, q0, q1, q2, q3]) rfl (by rw [HE2.out]; exact dans_no hm9 (st4_below hB (Nat.le_refl _) _ _ _ _))
  have hwb : (nm.toList == [119, 101, 105, 103, 104]) = false := beqF' hwe
  by_cases hask : nm.toList = [97, 115, 107]
  rotate_left
  · have hab : (nm.toList == [97, 115, 107]) = false := beqF' hask
    have HE2 : Hid (R = none) := by
      show _ = _
      rw [HR.out]
      unfold cmdOf txNone txWeigh txAsk
      rw [if_neg hno, if_neg hwe, if_neg hask]
    clear HR hno hwe hask
    go_enter Tryd.func64, Tryd.ntmps64
    go_wp2
    exact bodyPost_ret (v := .tuple #[.agg #[.int .i64 0, .slice none 0 0, .int .i64 0, .int .i64 0], .bool false]) (by simp [results, Tryd.results64, go_sem]) rfl (by rw [HE2.out]; exact dans_no (by omega) (by first | exact hal | exact (Below.refl w.heap.size w).alloc (Nat.le_refl _) _))
  have hab : (nm.toList == [97, 115, 107]) = true := beqT' hask
  have HE : Hid (R = if ns.length = 2 then some (3, ns) else none) := by
    show _ = _
    rw [HR.out, hask]
    rfl
  clear HR hno hwe hask
  by_cases h2 : ns.length = 2
  rotate_left
  · have h2' : ¬ (ns.length : Int) = 2 := by omega
    have h2b : ((ns.length : Int) != 2) = true := by simpa using h2'
    have HE2 : Hid (R = none) := by
      show _ = _
      rw [HE.out, if_neg h2]
    clear HE h2
    go_enter Tryd.func64, Tryd.ntmps64
    go_wp2
    exact bodyPost_ret (v := .tuple #[.agg #[.int .i64 0, .slice none 0 0, .int .i64 0, .int .i64 0], .bool false]) (by simp [results, Tryd.results64, go_sem]) rfl (by rw [HE2.out]; exact dans_no (by omega) (by first | exact hal | exact (Below.refl w.heap.size w).alloc (Nat.le_refl _) _))
  obtain ⟨x, y, rfl⟩ : ∃ x y, ns = [x, y] := by
    match ns, h2 with
    | [x, y], _ => exact ⟨x, y, rfl⟩
  have HE2 : Hid (R = some (3, [x, y])) := by
    show _ = _
    rw [HE.out]
    rfl
  clear HE h2
  have hl2 : [x, y].length = 2 := rfl
  rw [hl2] at hO hO1 ⊢
  clear hl2
  obtain ⟨g, rfl, hgB, hI⟩ := hO.has (by omega)
  have hgl := hI.lt
  have c0 : w.cell? ⟨g, 0, none⟩ = some (.int .i64 x) := hI.cell (j := 0) (by omega)
  have c1 : w.cell? ⟨g, 1, none⟩ = some (.int .i64 y) := hI.cell (j := 1) (by omega)
  replace c0 := keep_cell hal (Nat.le_refl _) c0
  replace c1 := keep_cell hal (Nat.le_refl _) c1
  have r0 := v1.cell (j := 0) (by omega)
  have r1 := v1.cell (j := 1) (by omega)
  have r2 := v1.cell (j := 2) (by omega)
  have r3 := v1.cell (j := 3) (by omega)
  have fz := fun j => v1.frozen j
  have hne : w.heap.size ≠ g := by omega
  go_enter Tryd.func64, Tryd.ntmps64
  go_wp2_with fail
  generalize (w.alloc (.cells #[.int .i64 0, .slice none 0 0, .int .i64 0, .int .i64 0] 62)) = W at v1 hal c0 c1 r0 r1 r2 r3 fz hO1 ⊢
  go_region_held3 (fun X => X.cell? ⟨g, 0, none⟩ = some (.int .i64 x) ∧ X.cell? ⟨g, 1, none⟩ = some (.int .i64 y)) (go_keep) (fail)
  go_wp2
  obtain ⟨q0, q1, q2, q3⟩ := st4 v1 (.int .i64 3) (.slice none 0 0) (.int .i64 x) (.int .i64 y)
  exact bodyPost_ret (v := .tuple #[.agg #[.int .i64 3, .slice none 0 0, .int .i64 x, .int .i64 y], .bool true]) (by simp [results, Tryd.results64, go_sem, q0, q1, q2, q3]) rfl (by rw [HE2.out]; exact dans_ask (st4_below hal (Nat.le_refl _) _ _ _ _).drew)

end Go.Proofs.YticckgmkhgnmfaaDoor
