/-
  Helpers, merged: RdS, Ordi, Gard, Box22, RwSpec, Copy3.
-/
import Derived.Test.YticckgmkhgnmfaaDoorPack6
import Derived.Test.YticckgmkhgnmfaaDoorPack2
import Derived.Test.YticckgmkhgnmfaaDoorPack4
import Derived.Test.YticckgmkhgnmfaaDoorPack5
import Derived.Test.YticckgmkhgnmfaaDoorPack1
/-
  The document's ReadCommand: what it reads, plainly. For every text of at most 2^20 bytes.
-/
set_option linter.unusedVariables false
set_option linter.unusedSimpArgs false
namespace Go.Proofs.YticckgmkhgnmfaaDoor
open Go.RowKit Go.Maps
attribute [local go_sem ↓] Go.wp_at_zero Go.wp_at_succ

def askR (T : Option (List Int)) : Option (Int × List Int) := match T with | some ns => if ns.length = 2 then some (3, ns) else none | none => none
def weighR (T : Option (List Int)) : Option (Int × List Int) := match T with | some ns => if ns.length % 3 = 0 then some (2, ns) else none | none => none
theorem zeroCmd (F T G : Nat → Int) : cmdB 0 0 F T G 0 0 = false := by simp [cmdB]
theorem oneCmd (F T G : Nat → Int) : cmdB 1 0 F T G 0 0 = true := by simp [cmdB]
theorem beqT {l m : List UInt8} (h : l = m) : (l == m) = true := by simp [h]
theorem beqF {l m : List UInt8} (h : l ≠ m) : (l == m) = false := by simp [h]

set_option maxHeartbeats 2000000 in
set_option maxRecDepth 20000 in
theorem specRead_none (s : ByteArray) (hs : s.size ≤ 1048576) (hN : (s.toList == [110, 111, 110, 101]) = true) (w : World) :
    Calls Tryd.prog 33 #[.string s] w fun e w' => CAns w w' e (some (1, [])) := by
  obtain ⟨v1, v2, hB, hsz⟩ := c4_two w (.int .i64 0) (.slice none 0 0) (.int .i64 0) (.int .i64 0) (.int .i64 1) (.slice none 0 0) (.int .i64 0) (.int .i64 0) 62
  go_enter Tryd.func33, Tryd.ntmps33
  go_wp2_with fail
  generalize ((w.alloc (.cells #[.int .i64 0, .slice none 0 0, .int .i64 0, .int .i64 0] 62)).alloc (.cells #[.int .i64 1, .slice none 0 0, .int .i64 0, .int .i64 0] 62)) = W at v1 v2 hB hsz ⊢
  refine (specCommandOk_any 1 none 0 0 (fun _ => 0) (fun _ => 0) (fun _ => 0) 0 0 (by omega) _ (fun k hk => by omega)).mono ?_
  rintro e w1 ⟨rfl, hb1⟩
  rw [oneCmd]
  replace v1 := v1.next hb1
  replace v2 := v2.next hb1
  replace hB := below_next hB (Nat.le_refl _) hb1
  have r0 := v1.cell (j := 0) (by omega)
  have r1 := v1.cell (j := 1) (by omega)
  have r2 := v1.cell (j := 2) (by omega)
  have r3 := v1.cell (j := 3) (by omega)
  have s0 : w1.cell? ⟨w.heap.size + 1, 0, none⟩ = some (.int .i64 1) := v2.cell (j := 0) (by omega)
  have s1 : w1.cell? ⟨w.heap.size + 1, 1, none⟩ = some (.slice none 0 0) := v2.cell (j := 1) (by omega)
  have s2 : w1.cell? ⟨w.heap.size + 1, 2, none⟩ = some (.int .i64 0) := v2.cell (j := 2) (by omega)
  have s3 : w1.cell? ⟨w.heap.size + 1, 3, none⟩ = some (.int .i64 0) := v2.cell (j := 3) (by omega)
  have fz := fun j => v1.frozen j
  clear hb1 v2
  go_wp2
  obtain ⟨q0, q1, q2, q3⟩ := st4 v1 (.int .i64 1) (.slice none 0 0) (.int .i64 0) (.int .i64 0)
  exact bodyPost_ret (v := .tuple #[.agg #[.int .i64 1, .slice none 0 0, .int .i64 0, .int .i64 0], .bool true]) (by simp [results, Tryd.results33, go_sem, q0, q1, q2, q3]) rfl ⟨none, 0, rfl, owns_none _ _ _ _, st4_below hB (Nat.le_refl _) _ _ _ _⟩

set_option maxHeartbeats 2000000 in
set_option maxRecDepth 20000 in
/-- None of the three. -/
theorem specRead_zero (s : ByteArray) (hs : s.size ≤ 1048576) (hN : (s.toList == [110, 111, 110, 101]) = false) (hA : 4 < s.size → ((s.extract 0 4).toList == [97, 115, 107, 32]) = false) (hW : 6 < s.size → ((s.extract 0 6).toList == [119, 101, 105, 103, 104, 32]) = false) (w : World) :
    Calls Tryd.prog 33 #[.string s] w fun e w' => CAns w w' e none := by
  obtain ⟨v1, v2, hB, hsz⟩ := c4_two w (.int .i64 0) (.slice none 0 0) (.int .i64 0) (.int .i64 0) (.int .i64 0) (.slice none 0 0) (.int .i64 0) (.int .i64 0) 62
  have HCO : Hid (∀ W, Calls Tryd.prog 56 #[.agg #[.int .i64 0, .slice none 0 0, .int .i64 0, .int .i64 0]] W fun e w' => e = .returned (.bool false) ∧ Below W.heap.size W w') := fun W => by
    have := specCommandOk_any 0 none 0 0 (fun _ => 0) (fun _ => 0) (fun _ => 0) 0 0 (by omega) W (fun k hk => by omega)
    rwa [zeroCmd] at this
  have hcase : (¬ 4 < s.size) ∨ (4 < s.size ∧ ¬ 6 < s.size ∧ ((s.extract 0 4).toList == [97, 115, 107, 32]) = false) ∨ (6 < s.size ∧ ((s.extract 0 4).toList == [97, 115, 107, 32]) = false ∧ ((s.extract 0 6).toList == [119, 101, 105, 103, 104, 32]) = false) := by
    by_cases h4 : 4 < s.size
    · by_cases h6 : 6 < s.size
      · exact .inr (.inr ⟨h6, hA h4, hW h6⟩)
      · exact .inr (.inl ⟨h4, h6, hA h4⟩)
    · exact .inl h4
  clear hA hW
  rcases hcase with h4 | ⟨h4, h6, hA⟩ | ⟨h6, hA, hW⟩
  · have h4' : ¬ (4 : Int) < (s.size : Int) := by omega
    have h6' : ¬ (6 : Int) < (s.size : Int) := by omega
    go_enter Tryd.func33, Tryd.ntmps33
    go_wp2_with fail
    generalize ((w.alloc (.cells #[.int .i64 0, .slice none 0 0, .int .i64 0, .int .i64 0] 62)).alloc (.cells #[.int .i64 0, .slice none 0 0, .int .i64 0, .int .i64 0] 62)) = W at v1 v2 hB hsz ⊢
    refine (HCO.out _).mono ?_
    rintro e w1 ⟨rfl, hb1⟩
    replace v1 := v1.next hb1
    replace hB := below_next hB (Nat.le_refl _) hb1
    have r0 := v1.cell (j := 0) (by omega)
    have r1 := v1.cell (j := 1) (by omega)
    have r2 := v1.cell (j := 2) (by omega)
    have r3 := v1.cell (j := 3) (by omega)
    have fz := fun j => v1.frozen j
    clear hb1 v2
    go_wp2
    obtain ⟨q0, q1, q2, q3⟩ := st4 v1 (.int .i64 0) (.slice none 0 0) (.int .i64 0) (.int .i64 0)
    exact bodyPost_ret (v := .tuple #[.agg #[.int .i64 0, .slice none 0 0, .int .i64 0, .int .i64 0], .bool false]) (by simp [results, Tryd.results33, go_sem, q0, q1, q2, q3]) rfl ⟨none, 0, rfl, owns_none _ _ _ _, st4_below hB (Nat.le_refl _) _ _ _ _⟩
  · have h4' : (4 : Int) < (s.size : Int) := by omega
    have h6' : ¬ (6 : Int) < (s.size : Int) := by omega
    go_enter Tryd.func33, Tryd.ntmps33
    go_wp2_with fail
    generalize ((w.alloc (.cells #[.int .i64 0, .slice none 0 0, .int .i64 0, .int .i64 0] 62)).alloc (.cells #[.int .i64 0, .slice none 0 0, .int .i64 0, .int .i64 0] 62)) = W at v1 v2 hB hsz ⊢
    refine (HCO.out _).mono ?_
    rintro e w1 ⟨rfl, hb1⟩
    replace v1 := v1.next hb1
    replace hB := below_next hB (Nat.le_refl _) hb1
    have r0 := v1.cell (j := 0) (by omega)
    have r1 := v1.cell (j := 1) (by omega)
    have r2 := v1.cell (j := 2) (by omega)
    have r3 := v1.cell (j := 3) (by omega)
    have fz := fun j => v1.frozen j
    clear hb1 v2
    go_wp2
    obtain ⟨q0, q1, q2, q3⟩ := st4 v1 (.int .i64 0) (.slice none 0 0) (.int .i64 0) (.int .i64 0)
    exact bodyPost_ret (v := .tuple #[.agg #[.int .i64 0, .slice none 0 0, .int .i64 0, .int .i64 0], .bool false]) (by simp [results, Tryd.results33, go_sem, q0, q1, q2, q3]) rfl ⟨none, 0, rfl, owns_none _ _ _ _, st4_below hB (Nat.le_refl _) _ _ _ _⟩
  · have h4' : (4 : Int) < (s.size : Int) := by omega
    have h6' : (6 : Int) < (s.size : Int) := by omega
    go_enter Tryd.func33, Tryd.ntmps33
    go_wp2_with fail
    generalize ((w.alloc (.cells #[.int .i64 0, .slice none 0 0, .int .i64 0, .int .i64 0] 62)).alloc (.cells #[.int .i64 0, .slice none 0 0, .int .i64 0, .int .i64 0] 62)) = W at v1 v2 hB hsz ⊢
    refine (HCO.out _).mono ?_
    rintro e w1 ⟨rfl, hb1⟩
    replace v1 := v1.next hb1
    replace hB := below_next hB (Nat.le_refl _) hb1
    have r0 := v1.cell (j := 0) (by omega)
    have r1 := v1.cell (j := 1) (by omega)
    have r2 := v1.cell (j := 2) (by omega)
    have r3 := v1.cell (j := 3) (by omega)
    have fz := fun j => v1.frozen j
    clear hb1 v2
    go_wp2
    obtain ⟨q0, q1, q2, q3⟩ := st4 v1 (.int .i64 0) (.slice none 0 0) (.int .i64 0) (.int .i64 0)
    exact bodyPost_ret (v := .tuple #[.agg #[.int .i64 0, .slice none 0 0, .int .i64 0, .int .i64 0], .bool false]) (by simp [results, Tryd.results33, go_sem, q0, q1, q2, q3]) rfl ⟨none, 0, rfl, owns_none _ _ _ _, st4_below hB (Nat.le_refl _) _ _ _ _⟩

set_option maxHeartbeats 2000000 in
set_option maxRecDepth 20000 in
theorem specRead_ask (s : ByteArray) (hs : s.size ≤ 1048576) (hN : (s.toList == [110, 111, 110, 101]) = false) (h4 : 4 < s.size) (hA : ((s.extract 0 4).toList == [97, 115, 107, 32]) = true) (w : World) :
    Calls Tryd.prog 33 #[.string s] w fun e w' => CAns w w' e (onlyOk (askR (snums (s.data.toList.drop 4) [] []))) := by
  obtain ⟨v1, v2, hB, hsz⟩ := c4_two w (.int .i64 0) (.slice none 0 0) (.int .i64 0) (.int .i64 0) (.int .i64 0) (.slice none 0 0) (.int .i64 0) (.int .i64 0) 62
  have h4' : (4 : Int) < (s.size : Int) := by omega
  have HNU : Hid (∀ W, Calls Tryd.prog 55 #[.string (s.extract 4 s.size)] W fun e w' => NAns W w' e (snums (s.data.toList.drop 4) [] [])) := fun W => by
    have := l1Numbers_any (s.extract 4 s.size) (by simp; omega) W
    rwa [extract_list, List.take_of_length_le (by simp)] at this
  generalize snums (s.data.toList.drop 4) [] [] = T at HNU ⊢
  obtain ⟨R, hR⟩ : ∃ R, R = onlyOk (askR T) := ⟨_, rfl⟩
  rw [← hR]
  have HR : Hid (R = onlyOk (askR T)) := hR
  clear hR
  go_enter Tryd.func33, Tryd.ntmps33
  go_wp2_with fail
  generalize ((w.alloc (.cells #[.int .i64 0, .slice none 0 0, .int .i64 0, .int .i64 0] 62)).alloc (.cells #[.int .i64 0, .slice none 0 0, .int .i64 0, .int .i64 0] 62)) = W at v1 v2 hB hsz ⊢
  refine (HNU.out _).mono ?_
  rintro e w1 ⟨ns, ok, g, cap, rfl, hT, hln, hown, hb1⟩
  replace v1 := v1.next hb1
  replace v2 := v2.next hb1
  replace hB := below_next hB (Nat.le_refl _) hb1
  have r0 := v1.cell (j := 0) (by omega)
  have r1 := v1.cell (j := 1) (by omega)
  have r2 := v1.cell (j := 2) (by omega)
  have r3 := v1.cell (j := 3) (by omega)
  have fz := fun j => v1.frozen j
  clear hb1 HNU
  have hbad : (ok = false ∨ (ok = true ∧ ns.length ≠ 2)) ∨ (ok = true ∧ ns.length = 2) := by
    cases ok
    · exact .inl (.inl rfl)
    · by_cases h : ns.length = 2
      · exact .inr ⟨rfl, h⟩
      · exact .inl (.inr ⟨rfl, h⟩)
  rcases hbad with hbad | ⟨rfl, hl2⟩
  · have HE : Hid (R = none) := by
      show _ = _
      rw [HR.out]
      rcases hT with ⟨h1, h2⟩ | ⟨h1, h2⟩
      · rcases hbad with h3 | ⟨_, h3⟩
        · rw [h1] at h3; cases h3
        · rw [h2]; simp [h3, onlyOk, askR]
      · rw [h2]; rfl
    clear v2 HR hT
    rcases hbad with rfl | ⟨rfl, hl2⟩
    · go_wp2
      obtain ⟨q0, q1, q2, q3⟩ := st4 v1 (.int .i64 0) (.slice none 0 0) (.int .i64 0) (.int .i64 0)
      exact bodyPost_ret (v := .tuple #[.agg #[.int .i64 0, .slice none 0 0, .int .i64 0, .int .i64 0], .bool false]) (by simp [results, Tryd.results33, go_sem, q0, q1, q2, q3]) rfl (by rw [HE.out]; exact ⟨none, 0, rfl, owns_none _ _ _ _, st4_below hB (Nat.le_refl _) _ _ _ _⟩)
    · have hl2' : ((ns.length : Int) != 2) = true := by simp; omega
      have hl3 : ¬ (ns.length : Int) = 2 := by omega
      clear hl2
      go_wp2
      obtain ⟨q0, q1, q2, q3⟩ := st4 v1 (.int .i64 0) (.slice none 0 0) (.int .i64 0) (.int .i64 0)
      exact bodyPost_ret (v := .tuple #[.agg #[.int .i64 0, .slice none 0 0, .int .i64 0, .int .i64 0], .bool false]) (by simp [results, Tryd.results33, go_sem, q0, q1, q2, q3]) rfl (by rw [HE.out]; exact ⟨none, 0, rfl, owns_none _ _ _ _, st4_below hB (Nat.le_refl _) _ _ _ _⟩)
  obtain ⟨x, y, rfl⟩ : ∃ x y, ns = [x, y] := by
    match ns, hl2 with
    | [x, y], _ => exact ⟨x, y, rfl⟩
  have HR2 : Hid (R = if okC 3 [x, y] = true then some (3, [x, y]) else none) := by
    show _ = _
    rw [HR.out]
    rcases hT with ⟨_, h2⟩ | ⟨h1, _⟩
    · rw [h2]; rfl
    · cases h1
  clear HR hT
  have c0 : w1.cell? ⟨g, 0, none⟩ = some (.int .i64 x) := hown.has.cell (j := 0) (by simp)
  have c1 : w1.cell? ⟨g, 1, none⟩ = some (.int .i64 y) := hown.has.cell (j := 1) (by simp)
  have gb := hown.base
  have s0 : w1.cell? ⟨w.heap.size + 1, 0, none⟩ = some (.int .i64 0) := v2.cell (j := 0) (by omega)
  have s1 : w1.cell? ⟨w.heap.size + 1, 1, none⟩ = some (.slice none 0 0) := v2.cell (j := 1) (by omega)
  have s2 : w1.cell? ⟨w.heap.size + 1, 2, none⟩ = some (.int .i64 0) := v2.cell (j := 2) (by omega)
  have s3 : w1.cell? ⟨w.heap.size + 1, 3, none⟩ = some (.int .i64 0) := v2.cell (j := 3) (by omega)
  have fz2 := fun j => v2.frozen j
  clear hown hln hl2
  have hl2 : [x, y].length = 2 := rfl
  simp only [hl2]
  clear hl2
  go_wp2_with fail
  go_region_law (fail)
  all_goals
    have u2 := ((((v2.set 0 (.int .i64 3)).set 1 (.slice none 0 0)).set 2 (.int .i64 x)).set 3 (.int .i64 y)).next ((Below.refl _ _).drew)
    have u1 := ((((v1.other (c := w.heap.size + 1) (i := 0) (by omega) (.int .i64 3)).other (c := w.heap.size + 1) (i := 1) (by omega) (.slice none 0 0)).other (c := w.heap.size + 1) (i := 2) (by omega) (.int .i64 x)).other (c := w.heap.size + 1) (i := 3) (by omega) (.int .i64 y)).next ((Below.refl _ _).drew)
    have uB := (st4_below hB (b := w.heap.size + 1) (by omega) (.int .i64 3) (.slice none 0 0) (.int .i64 x) (.int .i64 y)).drew
    clear v1 v2 hB c0 c1 s0 s1 s2 s3 fz2 r0 r1 r2 r3 fz gb
    have s0 := u2.cell (j := 0) (by omega)
    have s1 := u2.cell (j := 1) (by omega)
    have s2 := u2.cell (j := 2) (by omega)
    have s3 := u2.cell (j := 3) (by omega)
    simp only [reduceIte, reduceCtorEq, Nat.reduceEqDiff] at s0 s1 s2 s3
    generalize (((((w1.setCell ⟨w.heap.size + 1, 0, none⟩ (.int .i64 3)).setCell ⟨w.heap.size + 1, 1, none⟩ (.slice none 0 0)).setCell ⟨w.heap.size + 1, 2, none⟩ (.int .i64 x)).setCell ⟨w.heap.size + 1, 3, none⟩ (.int .i64 y))).drew = X at u1 u2 uB s0 s1 s2 s3 ⊢
    go_wp2_with fail
    refine (specCommandOk_any 3 none 0 0 (at3 [x, y] 0) (at3 [x, y] 0) (at3 [x, y] 0) x y (by omega) _ (fun k hk => by omega)).mono ?_
    rintro e w2 ⟨rfl, hb2⟩
    have hk : cmdB 3 0 (at3 [x, y] 0) (at3 [x, y] 0) (at3 [x, y] 0) x y = okC 3 [x, y] := by simp [okC]
    rw [hk]
    clear hk s0 s1 s2 s3
    replace u1 := u1.next hb2
    replace u2 := u2.next hb2
    replace uB := below_next uB (Nat.le_refl _) hb2
    have s0 := u2.cell (j := 0) (by omega)
    have s1 := u2.cell (j := 1) (by omega)
    have s2 := u2.cell (j := 2) (by omega)
    have s3 := u2.cell (j := 3) (by omega)
    simp only [reduceIte, reduceCtorEq, Nat.reduceEqDiff] at s0 s1 s2 s3
    have r0 := u1.cell (j := 0) (by omega)
    have r1 := u1.cell (j := 1) (by omega)
    have r2 := u1.cell (j := 2) (by omega)
    have r3 := u1.cell (j := 3) (by omega)
    have fz := fun j => u1.frozen j
    clear hb2 u2
    cases hok : okC 3 [x, y]
    · have HE : Hid (R = none) := by
        show _ = _
        rw [HR2.out, hok]
        rfl
      clear HR2
      go_wp2
      obtain ⟨q0, q1, q2, q3⟩ := st4 u1 (.int .i64 0) (.slice none 0 0) (.int .i64 0) (.int .i64 0)
      exact bodyPost_ret (v := .tuple #[.agg #[.int .i64 0, .slice none 0 0, .int .i64 0, .int .i64 0], .bool false]) (by simp [results, Tryd.results33, go_sem, q0, q1, q2, q3]) rfl (by rw [HE.out]; exact ⟨none, 0, rfl, owns_none _ _ _ _, st4_below uB (Nat.le_refl _) _ _ _ _⟩)
    · have HE : Hid (R = some (3, [x, y])) := by
        show _ = _
        rw [HR2.out, hok]
        rfl
      clear HR2
      go_wp2
      obtain ⟨q0, q1, q2, q3⟩ := st4 u1 (.int .i64 3) (.slice none 0 0) (.int .i64 x) (.int .i64 y)
      exact bodyPost_ret (v := .tuple #[.agg #[.int .i64 3, .slice none 0 0, .int .i64 x, .int .i64 y], .bool true]) (by simp [results, Tryd.results33, go_sem, q0, q1, q2, q3]) rfl (by rw [HE.out]; exact cans_ask (st4_below uB (Nat.le_refl _) _ _ _ _))

end Go.Proofs.YticckgmkhgnmfaaDoor

/-
  A region that draws its order, by an invariant over what is done; with one operation that writes into what is one's own.
-/
set_option linter.unusedVariables false
set_option linter.unusedSimpArgs false
namespace Go.Proofs.YticckgmkhgnmfaaDoor
open Go

section
variable {P : Program} {ops : Array Oper} {Q : Exit → Act → World → Prop}
/-- What an operation owes to an invariant. -/
def StepOk (P : Program) (ops : Array Oper) (a0 : Act) (Inv : (Nat → Bool) → (Nat → Value) → World → Prop) (Q : Exit → Act → World → Prop) (i : Nat) (o : Oper) : Prop :=
  ∀ (a : Act) (D : Nat → Bool) (v : Nat → Value) (w : World), D i = false → (∀ j, waitsFor o j → D j = true) → Inv D v w → EvOk ops a0 o v a.eval →
    if Region.wanted o (yielded ops a.tmps) = true then o.wp P a w (fun a' w' => ∃ u, a' = a.put o.dst u ∧ Inv (fun k => if k = i then true else D k) (fun k => if k = i then u else v k) w') Q
    else Inv (fun k => if k = i then true else D k) (fun k => if k = i then undef else v k) w
theorem wpAny_inv (hok : ordersOk ops = true) {a0 : Act} (Inv : (Nat → Bool) → (Nat → Value) → World → Prop)
    (hstep : ∀ i o, ops[i]? = some o → StepOk P ops a0 Inv Q i o)
    (hend : ∀ D v w, (∀ j, j < ops.size → D j = true) → Inv D v w → Q .normal (putL v 0 ops.toList a0) w) :
    ∀ (fuel : Nat) (listed : Array Bool) (a : Act) (w : World) (v : Nat → Value), listed.size = ops.size → unl ops listed ≤ fuel → Inv (fun j => listed.getD j false) v w → Fr ops a0 (fun j => listed.getD j false) v a → wpAny P .any ops Q fuel listed a w := by
  have fin : ∀ (listed : Array Bool) (a : Act) (w : World) (v : Nat → Value), listed.size = ops.size → Inv (fun j => listed.getD j false) v w → Fr ops a0 (fun j => listed.getD j false) v a → (∀ j, j < ops.size → listed.getD j true = true) → Q .normal a w := by
    intro listed a w v hsz hI hF hall
    have hall' : ∀ j, j < ops.size → listed.getD j false = true := fun j hj => by
      have := hall j hj
      have hl : j < listed.size := by omega
      simp [hl] at this ⊢
      exact this
    have h1 : Fr ops a0 (fun k => decide (k < 0 + ops.toList.length)) v a := hF.congr (fun j hj => by simp [hall' j hj, hj]) (fun _ _ _ => rfl)
    have h2 := putL_fr hok v a0 ops.toList 0 a0 (fun k _ => by simp) ((Fr.init a0 v).congr (fun j _ => by simp) (fun _ _ _ => rfl))
    rw [h1.uniq h2]
    exact hend _ v w hall' hI
  intro fuel
  induction fuel with
  | zero =>
    intro listed a w v hsz hu hI hF
    have hall : ∀ j, j < ops.size → listed.getD j true = true := fun j hj => by
      rcases Bool.eq_false_or_eq_true (listed.getD j true) with q | q
      · exact q
      · exfalso
        have h0 : (List.range ops.size).filter (fun i => !listed.getD i true) = [] := List.eq_nil_of_length_eq_zero (by unfold unl at hu; omega)
        have : j ∈ (List.range ops.size).filter (fun i => !listed.getD i true) := List.mem_filter.2 ⟨List.mem_range.2 hj, by rw [q]; rfl⟩
        rw [h0] at this
        cases this
    refine ⟨?_, fin listed a w v hsz hI hF hall⟩
    rw [List.eq_nil_iff_forall_not_mem]
    intro j hj
    obtain ⟨h0, o, ho, _⟩ := mem_ready.1 hj
    rw [hall j (Array.getElem?_eq_some_iff.1 ho).1] at h0
    cases h0
  | succ fuel ih =>
    intro listed a w v hsz hu hI hF
    refine ⟨fun hr => fin listed a w v hsz hI hF (ready_or_all hok listed hr hsz), fun i hi => ?_⟩
    obtain ⟨h0, o, ho, hall⟩ := mem_ready.1 hi
    have hil : i < ops.size := (Array.getElem?_eq_some_iff.1 ho).1
    have h0f : listed.getD i false = false := by
      have hl : i < listed.size := by omega
      simp [hl] at h0 ⊢
      exact h0
    have hw : ∀ j, waitsFor o j → listed.getD j false = true := fun j ⟨e, he, hb, ej⟩ => by
      subst ej
      exact hall e he hb
    have hE : EvOk ops a0 o v a.eval := ⟨fun j d hj hwj hlt => by
      cases hp : ops[j]? with
      | none => rw [hp] at hj; cases hj
      | some p =>
        rw [hp] at hj
        have := hF.done j p d hp (hw j (waitsB_for hwj)) hj hlt
        simp [Act.eval, Array.getD_eq_getD_getElem?, this], fun d hn => by
        have := hF.rest d fun j p hj _ => noDstB_spec hn j p hj
        simp [Act.eval, Array.getD_eq_getD_getElem?, this], fun _ => rfl, fun _ => rfl, fun _ => rfl⟩
    have hS := hstep i o ho a (fun j => listed.getD j false) v w h0f hw hI hE
    have next : ∀ u w', Inv (fun k => if k = i then true else listed.getD k false) (fun k => if k = i then u else v k) w' → wpAny P .any ops Q fuel (listed.setIfInBounds i true) (a.put o.dst u) w' := fun u w' hI' => by
      have e : (fun k => (listed.setIfInBounds i true).getD k false) = (fun k => if k = i then true else listed.getD k false) := by
        funext k
        by_cases hki : k = i
        · subst hki
          have hl : k < listed.size := by omega
          simp [hl]
        · simp only [hki, if_false]
          rw [getD_set_ne false (fun q => hki q.symm)]
      refine ih _ _ _ (fun k => if k = i then u else v k) (by simp [hsz]) ?_ (by rw [e]; exact hI') ?_
      · have := count_set (l := List.range ops.size) List.nodup_range (f := fun k => !listed.getD k true) (g := fun k => !(listed.setIfInBounds i true).getD k true) (i := i) (List.mem_range.2 hil) (by simp only [h0]; rfl) (by
          have hl : i < listed.size := by omega
          simp [hl]) (fun k hk => by
          show (!(listed.setIfInBounds i true).getD k true) = !listed.getD k true
          rw [getD_set_ne true (fun q => hk q.symm)])
        unfold unl at hu ⊢
        omega
      · rw [e]
        exact hF.put hok ho h0f u
    unfold wpOp
    simp only [ho]
    split
    · rename_i hwt
      rw [if_pos hwt] at hS
      exact .inl (Oper.wp_mono (fun a' w' ⟨u, e, h1⟩ => by rw [e]; exact next u w' h1) hS)
    · rename_i hwt
      rw [if_neg hwt] at hS
      exact next undef w hS
/-- A region that draws its order, by an invariant over what is done. -/
theorem region_inv {id : Nat} {a0 : Act} {w0 : World} (hm : P.follows .mixedOrders = true) (hok : ordersOk ops = true) (Inv : (Nat → Bool) → (Nat → Value) → World → Prop) (h0 : Inv (fun _ => false) (fun _ => undef) w0.drew)
    (hstep : ∀ i o, ops[i]? = some o → StepOk P ops a0 Inv Q i o)
    (hend : ∀ D v w, (∀ j, j < ops.size → D j = true) → Inv D v w → Q .normal (putL v 0 ops.toList a0) w) : (Code.region id ops true).wp P Q a0 w0 := by
  refine wp_region_any hm ?_
  have e : (fun j => (Array.replicate ops.size false).getD j false) = (fun _ => false) := by
    funext j
    by_cases hj : j < ops.size <;> simp [hj]
  refine wpAny_inv hok Inv hstep hend ops.size _ a0 _ (fun _ => undef) (by simp) ?_ (by rw [e]; exact h0) ?_
  · unfold unl
    exact Nat.le_trans (List.length_filter_le _ _) (by simp)
  · rw [e]
    exact Fr.init a0 _
/-- What an operation owes that may come behind the one that writes. -/
def LateOk (P : Program) (ops : Array Oper) (a0 : Act) (w0 : World) (Post : World → Prop) (Pr : Nat → Value → World → Prop) (ks : List Nat) (i : Nat) (o : Oper) : Prop :=
  ∀ (ev : Operand → Value) (w : World) (v : Nat → Value), (RB w0 w ∨ Post w) → EvOk ops a0 o v ev → (∀ j, j ∈ ks → waitsB o j = true → Pr j (v j) w) → ∃ u w', (execOp ev o).run P w = .ok (.value u) w' ∧ RB w w' ∧ Pr i u w'
/-- What the one that writes owes. -/
def MidOk (P : Program) (ops : Array Oper) (a0 : Act) (w0 : World) (Rx : World → World → Prop) (Post : World → Prop) (Pr : Nat → Value → World → Prop) (i : Nat) (o : Oper) : Prop :=
  ∀ (a : Act) (w : World) (v : Nat → Value) (Q : Exit → Act → World → Prop), RB w0 w → EvOk ops a0 o v a.eval → (∀ j, j < ops.size → waitsB o j = true → Pr j (v j) w) → o.wp P a w (fun a' w' => ∃ u, a' = a.put o.dst u ∧ Rx w w' ∧ Post w' ∧ Pr i u w') Q
theorem MidOk.val {a0 : Act} {w0 : World} {Rx : World → World → Prop} {Post : World → Prop} {Pr : Nat → Value → World → Prop} {i : Nat} {o : Oper}
    (h : ∀ (ev : Operand → Value) (w : World) (v : Nat → Value), RB w0 w → EvOk ops a0 o v ev → (∀ j, j < ops.size → waitsB o j = true → Pr j (v j) w) → ∃ u w', (execOp ev o).run P w = .ok (.value u) w' ∧ Rx w w' ∧ Post w' ∧ Pr i u w') : MidOk P ops a0 w0 Rx Post Pr i o := by
  intro a w v Q hR E pr
  obtain ⟨u, w', hr, h1, h2, h3⟩ := h a.eval w v hR E pr
  unfold Oper.wp
  rw [hr]
  exact ⟨u, rfl, h1, h2, h3⟩
theorem MidOk.call {a0 : Act} {w0 : World} {Rx : World → World → Prop} {Post : World → Prop} {Pr : Nat → Value → World → Prop} {i : Nat} {o : Oper}
    (h : ∀ (ev : Operand → Value) (w : World) (v : Nat → Value), RB w0 w → EvOk ops a0 o v ev → (∀ j, j < ops.size → waitsB o j = true → Pr j (v j) w) → ∃ f args, (execOp ev o).run P w = .ok (.enter f args) w ∧ Calls P f args w fun e w' => ∃ u, e = .returned u ∧ Rx w w' ∧ Post w' ∧ Pr i u w') : MidOk P ops a0 w0 Rx Post Pr i o := by
  intro a w v Q hR E pr
  obtain ⟨f, args, hr, hc⟩ := h a.eval w v hR E pr
  unfold Oper.wp
  rw [hr]
  refine Calls.mono hc ?_
  rintro e w' ⟨u, rfl, h1, h2, h3⟩
  exact ⟨u, rfl, h1, h2, h3⟩
/-- Of every operation but the last: number kx, one that is awaited by it (early), or one that waits for none but these that are kept. -/
def midOkB (ops : Array Oper) (kx : Nat) (early keep : List Nat) : Bool :=
  keep.all (fun i => decide (i + 1 < ops.size)) && (List.range (ops.size - 1)).all fun i => match ops[i]? with
    | none => true
    | some o => o.guard.isNone && (i == kx || (if early.contains i then (decide (i < kx) && (List.range (kx + 1)).any fun j => decide (i < j) && ((j == kx || early.contains j) && match ops[j]? with | none => false | some p => waitsB p i)) else keep.contains i))
theorem waitsB_iff {o : Oper} {j : Nat} : waitsB o j = true ↔ waitsFor o j := ⟨waitsB_for, fun ⟨e, he, hb, hj⟩ => by
  unfold waitsB
  rw [Array.any_eq_true']
  exact ⟨e, he, by simp [hb, hj]⟩⟩
set_option maxHeartbeats 1000000 in
theorem region_mid {id : Nat} {a0 : Act} {w0 : World} (hm : P.follows .mixedOrders = true) (hok : ordersOk ops = true) (haw : eachAwaited ops = true) (kx : Nat) (early keep : List Nat) (hmid : midOkB ops kx early keep = true) (hkx : Nat.blt kx (ops.size - 1) = true)
    (Rx : World → World → Prop) (Post : World → Prop) (hPost : ∀ w w', Post w → RB w w' → Post w') (l : List (Value → World → Prop)) (hPr : allMono RB l) (hll : l.length = ops.size - 1)
    (hkeep : ∀ i, i ∈ keep → ∀ v w w', prAt l i v w → Rx w w' → prAt l i v w')
    (hearly : ∀ i, i ∈ early → ∀ o, ops[i]? = some o → OpOk P ops a0 w0.drew RB (prAt l) i o) (hlate : ∀ i, i + 1 < ops.size → i ≠ kx → i ∉ early → ∀ o, ops[i]? = some o → LateOk P ops a0 w0.drew Post (prAt l) (kx :: keep) i o)
    (hx : ∀ o, ops[kx]? = some o → MidOk P ops a0 w0.drew Rx Post (prAt l) kx o)
    (o9 : Oper) (ho9 : ops[ops.size - 1]? = some o9) (hg9 : o9.guard = none) (hd9 : o9.dst = none)
    (Fin : (Nat → Value) → World → Prop)
    (hstore : ∀ (ev : Operand → Value) (w' : World) (v : Nat → Value), Post w' → EvOk ops a0 o9 v ev → (∀ i, i ∈ kx :: keep → prAt l i (v i) w') → ∃ w'', (execOp ev o9).run P w' = .ok .skip w'' ∧ ∀ v', (∀ i, i + 1 < ops.size → v' i = v i) → Fin v' w'')
    (hend : ∀ v w'', Fin v w'' → Q .normal (putL v 0 ops.toList a0) w'') : (Code.region id ops true).wp P Q a0 w0 := by
  have hkx' : kx < ops.size - 1 := Nat.le_of_ble_eq_true hkx
  have h9 : ops.size - 1 < ops.size := (Array.getElem?_eq_some_iff.1 ho9).1
  simp only [midOkB, Bool.and_eq_true, List.all_eq_true, List.mem_range, decide_eq_true_eq] at hmid
  obtain ⟨keepB, hmid⟩ := hmid
  have guardN : ∀ (i : Nat) (o : Oper), ops[i]? = some o → o.guard = none := fun i o ho => by
    have hil : i < ops.size := (Array.getElem?_eq_some_iff.1 ho).1
    by_cases hi9 : i = ops.size - 1
    · rw [hi9, ho9] at ho
      cases ho
      exact hg9
    · have := hmid i (by omega)
      rw [ho] at this
      simp only [Bool.and_eq_true, Option.isNone_iff_eq_none] at this
      exact this.1
  have lateIs : ∀ (i : Nat) (o : Oper), ops[i]? = some o → i + 1 < ops.size → i ≠ kx → i ∉ early → i ∈ keep := fun i o ho hi hne hE => by
    have := hmid i (by omega)
    rw [ho] at this
    simp only [Bool.and_eq_true, Bool.or_eq_true, beq_iff_eq, hne, false_or] at this
    have h2 := this.2
    rw [if_neg (by simpa using hE)] at h2
    simpa using h2
  have earlyIs : ∀ i, i ∈ early → i < ops.size - 1 → i ≠ kx → i < kx ∧ ∃ j p, i < j ∧ j ≤ kx ∧ (j = kx ∨ j ∈ early) ∧ ops[j]? = some p ∧ waitsFor p i := fun i hE hi hne => by
    have hoi : ops[i]? = some ops[i] := by simp
    have := hmid i hi
    rw [hoi] at this
    simp only [Bool.and_eq_true, Bool.or_eq_true, beq_iff_eq, hne, false_or] at this
    have h2 := this.2
    rw [if_pos (by simpa using hE)] at h2
    simp only [Bool.and_eq_true, decide_eq_true_eq, List.any_eq_true, List.mem_range, Bool.or_eq_true, beq_iff_eq] at h2
    obtain ⟨h3, j, hj, hij, hjk, hwj⟩ := h2
    refine ⟨h3, j, ?_⟩
    cases hp : ops[j]? with
    | none => rw [hp] at hwj; cases hwj
    | some p =>
      rw [hp] at hwj
      exact ⟨p, hij, by omega, hjk.imp (fun q => q) (by simp), rfl, waitsB_for hwj⟩
  have earlyD : ∀ (D : Nat → Bool), (∀ i o j, ops[i]? = some o → D i = true → waitsFor o j → D j = true) → D kx = true → ∀ n i, i + n = kx → i ∈ early → i < ops.size - 1 → D i = true := by
    intro D hC hDx n
    induction n using Nat.strongRecOn with
    | ind n ih =>
      intro i hin hE hi
      by_cases hne : i = kx
      · rw [hne]; exact hDx
      obtain ⟨_, j, p, hij, hjk, hjE, hp, hwj⟩ := earlyIs i hE hi hne
      refine hC j p i hp ?_ hwj
      rcases hjE with rfl | hjE
      · exact hDx
      · exact ih (kx - j) (by omega) j (by omega) hjE (by omega)
  -- the last one is awaited by none, and waits for all, step by step
  have allD : ∀ (D : Nat → Bool), (∀ i o j, ops[i]? = some o → D i = true → waitsFor o j → D j = true) → (∀ j, waitsFor o9 j → D j = true) → ∀ n j, j + 1 + n = ops.size - 1 → D j = true := by
    intro D hC h9w n
    induction n using Nat.strongRecOn with
    | ind n ih =>
      intro j hj
      obtain ⟨i, o, ho, hji, hwj⟩ := eachAwaited_spec haw (j := j) (by omega)
      have hil : i < ops.size := (Array.getElem?_eq_some_iff.1 ho).1
      by_cases hi9 : i = ops.size - 1
      · rw [hi9, ho9] at ho
        cases ho
        exact h9w j hwj
      · exact hC i o j ho (ih (ops.size - 1 - 1 - i) (by omega) i (by omega)) hwj
  let Inv : (Nat → Bool) → (Nat → Value) → World → Prop := fun D v w =>
    (∀ i o j, ops[i]? = some o → D i = true → waitsFor o j → D j = true) ∧
    (if D (ops.size - 1) = true then Fin v w else if D kx = true then Post w ∧ ∀ i, i ∈ kx :: keep → D i = true → prAt l i (v i) w else RB w0.drew w ∧ ∀ i, i + 1 < ops.size → D i = true → prAt l i (v i) w)
  refine region_inv hm hok Inv ⟨fun _ _ _ _ h => (Bool.noConfusion h), ?_⟩ ?_ ?_
  · simp only [Bool.false_eq_true, if_false]
    exact ⟨RB.refl _, fun _ _ h => h.elim⟩
  · intro i o ho a D v w hDi hDw hI hE
    obtain ⟨hC, hI⟩ := hI
    have hil : i < ops.size := (Array.getElem?_eq_some_iff.1 ho).1
    rw [if_pos (by unfold Region.wanted; rw [guardN i o ho])]
    have hC' : ∀ i' o' j, ops[i']? = some o' → (if i' = i then true else D i') = true → waitsFor o' j → (if j = i then true else D j) = true := fun i' o' j ho' hd hw => by
      by_cases hji : j = i
      · simp [hji]
      · simp only [hji, if_false]
        by_cases hii : i' = i
        · subst hii
          rw [ho] at ho'
          cases ho'
          exact hDw j hw
        · simp only [hii, if_false] at hd
          exact hC i' o' j ho' hd hw
    have hnl : i ≠ ops.size - 1 → D (ops.size - 1) = false := fun hne => by
      rcases Bool.eq_false_or_eq_true (D (ops.size - 1)) with q | q
      · exfalso
        have := allD D hC (fun j hj => hC _ _ j ho9 q hj) (ops.size - 1 - 1 - i) i (by omega)
        rw [hDi] at this
        cases this
      · exact q
    by_cases hi9 : i = ops.size - 1
    · have ho' : o = o9 := by rw [hi9, ho9] at ho; exact (Option.some.inj ho).symm
      subst ho'
      have hall := allD D hC hDw
      have hDx : D kx = true := hall (ops.size - 1 - 1 - kx) kx (by omega)
      rw [if_neg (by rw [← hi9, hDi]; simp), if_pos hDx] at hI
      obtain ⟨w'', hr, hF⟩ := hstore a.eval w v hI.1 hE (fun k hk => hI.2 k hk (by
        by_cases hk9 : k + 1 < ops.size
        · exact hall (ops.size - 1 - 1 - k) k (by omega)
        · exfalso
          rcases List.mem_cons.1 hk with rfl | hk
          · omega
          · exact absurd (keepB k hk) hk9))
      unfold Oper.wp
      rw [hr]
      simp only [Oper.upon, hd9]
      refine ⟨undef, by simp [Act.put], hC', ?_⟩
      rw [if_pos (by simp [hi9])]
      exact hF _ (fun k hk => by rw [if_neg (by omega)])
    · have hD9 := hnl hi9
      have hD9' : (if ops.size - 1 = i then true else D (ops.size - 1)) = false := by rw [if_neg (fun q => hi9 q.symm), hD9]
      rw [if_neg (by rw [hD9]; simp)] at hI
      by_cases hix : i = kx
      · subst hix
        rw [if_neg (by rw [hDi]; simp)] at hI
        refine Oper.wp_mono ?_ (hx o ho a w v Q hI.1 hE (fun j hj hw => hI.2 j (by have := (ordersOk_spec hok ho).1 j (waitsB_for hw); omega) (hDw j (waitsB_for hw))))
        rintro a' w' ⟨u, e, h1, h2, h3⟩
        refine ⟨u, e, hC', ?_⟩
        dsimp only
        rw [if_neg (by rw [hD9']; simp), if_pos (by simp)]
        refine ⟨h2, fun k hk hdk => ?_⟩
        by_cases hki : k = i
        · subst hki; simp only [if_true]; exact h3
        · simp only [hki, if_false] at hdk ⊢
          rcases List.mem_cons.1 hk with q | hk
          · exact absurd q hki
          · have hk1 : k + 1 < ops.size := keepB k hk
            exact hkeep k hk _ _ _ (hI.2 k hk1 hdk) h1
      · have hxe : (if kx = i then true else D kx) = D kx := if_neg (fun q => hix q.symm)
        by_cases hE' : i ∈ early
        · have hDx : D kx = false := by
            rcases Bool.eq_false_or_eq_true (D kx) with q | q
            · exfalso
              have h1 := (earlyIs i hE' (by omega) hix).1
              have := earlyD D hC q (kx - i) i (by omega) hE' (by omega)
              rw [hDi] at this
              cases this
            · exact q
          rw [if_neg (by rw [hDx]; simp)] at hI
          have hO := hearly i hE' o ho a w v Q hI.1 (fun j p d hj hd hlt hwj => hE.at_ j d (by rw [hj]; exact hd) (waitsB_iff.2 hwj) hlt) (fun j hj hwj => hI.2 j (by have := (ordersOk_spec hok ho).1 j hwj; omega) (hDw j hwj)) (fun d hno => by
            have : noDstB ops d = true := by
              unfold noDstB
              rw [Array.all_eq_true']
              intro p hp
              obtain ⟨j, hj⟩ := Array.mem_iff_getElem?.1 hp
              simpa using hno j p hj
            exact hE.old d this)
          rw [if_pos (by unfold Region.wanted; rw [guardN i o ho])] at hO
          refine Oper.wp_mono ?_ hO
          rintro a' w' ⟨u, e, h1, h2⟩
          refine ⟨u, e, hC', ?_⟩
          dsimp only
          rw [if_neg (by rw [hD9']; simp), if_neg (by rw [hxe, hDx]; simp)]
          refine ⟨RB.trans _ _ _ hI.1 h1, fun k hk hdk => ?_⟩
          by_cases hki : k = i
          · subst hki; simp only [if_true]; exact h2
          · simp only [hki, if_false] at hdk ⊢
            exact allMono_at hPr k _ _ _ (hI.2 k hk hdk) h1
        · have hkp := lateIs i o ho (by omega) hix hE'
          have hpr : ∀ j, j ∈ kx :: keep → waitsB o j = true → prAt l j (v j) w := fun j hj hw => by
            have hw' := waitsB_for hw
            have hd := hDw j hw'
            split at hI
            · exact hI.2 j hj hd
            · exact hI.2 j (by have := (ordersOk_spec hok ho).1 j hw'; omega) hd
          obtain ⟨u, w', hr, h1, h2⟩ := hlate i (by omega) hix hE' o ho a.eval w v (by
            split at hI
            · exact .inr hI.1
            · exact .inl hI.1) hE hpr
          unfold Oper.wp
          rw [hr]
          refine ⟨u, rfl, hC', ?_⟩
          dsimp only
          rw [if_neg (by rw [hD9']; simp)]
          split at hI
          · next hDx =>
            rw [if_pos (by rw [hxe]; exact hDx)]
            refine ⟨hPost _ _ hI.1 h1, fun k hk hdk => ?_⟩
            by_cases hki : k = i
            · subst hki; simp only [if_true]; exact h2
            · simp only [hki, if_false] at hdk ⊢
              exact allMono_at hPr k _ _ _ (hI.2 k hk hdk) h1
          · next hDx =>
            rw [if_neg (by rw [hxe]; exact hDx)]
            refine ⟨RB.trans _ _ _ hI.1 h1, fun k hk hdk => ?_⟩
            by_cases hki : k = i
            · subst hki; simp only [if_true]; exact h2
            · simp only [hki, if_false] at hdk ⊢
              exact allMono_at hPr k _ _ _ (hI.2 k hk hdk) h1
  · intro D v w hall hI
    obtain ⟨_, hI⟩ := hI
    rw [if_pos (hall _ h9)] at hI
    exact hend v w hI
end

end Go.Proofs.YticckgmkhgnmfaaDoor

/-
  Guarded operations of a region that draws its order; loads of boxes; each by one term.
-/
set_option linter.unusedVariables false
set_option linter.unusedSimpArgs false
namespace Go.Proofs.YticckgmkhgnmfaaDoor
open Go Go.RowKit

section
variable {P : Program} {ops : Array Oper}
/-- A value that is there where the guard says so. -/
abbrev gv (c : Bool) (v : Value) : Value := bif c then v else undef
theorem wanted_gd {o : Oper} {a : Act} {j d : Nat} {b Cj bj : Bool} (hg : o.guard = some (j, b)) (hd : (ops[j]?).bind (·.dst) = some d) (he : a.eval (.tmp d) = gv Cj (.bool bj)) : Region.wanted o (yielded ops a.tmps) = (Cj && (bj == b)) := by
  unfold Region.wanted yielded
  rw [hg]
  simp only [hd]
  simp only [Act.eval, Array.getD_eq_getD_getElem?] at he
  simp only [Option.bind_some]
  cases h : a.tmps[d]? with
  | none =>
    rw [h] at he
    cases Cj
    · simp
    · simp [gv, undef] at he
  | some u =>
    rw [h] at he
    simp only [Option.getD_some] at he
    subst he
    cases Cj
    · simp [gv, undef]
    · simp [gv]
/-- A guarded operation that reads. -/
theorem OpOk.gd {a0 : Act} {w0 : World} {R : World → World → Prop} {Pr : Nat → Value → World → Prop} {i : Nat} {o : Oper} (hR : ∀ w, R w w) (j d : Nat) (b Cj bj : Bool) (hPj : ∀ v w, Pr j v w → v = gv Cj (.bool bj)) (C : Bool) (hC : C = (Cj && (bj == b))) (u : Value) (hp : ∀ w, Pr i (gv C u) w)
    (h : ∀ (ev : Operand → Value) (w : World) (v : Nat → Value), R w0 w → EvOk ops a0 o v ev → (∀ j, j < ops.size → waitsB o j = true → Pr j (v j) w) → C = true → (execOp ev o).run P w = .ok (.value u) w)
    (hg : o.guard = some (j, b) := by rfl) (h1 : (ops[j]?).bind (·.dst) = some d := by rfl) (h2 : waitsB o j = true := by kernel_rfl) (h3 : Nat.blt d a0.tmps.size = true := by kernel_rfl) (h4 : Nat.blt j ops.size = true := by kernel_rfl) : OpOk P ops a0 w0 R Pr i o := by
  intro a w v Q hRw hd hpr hb
  have E : EvOk ops a0 o v a.eval := ⟨fun j d hj hw hlt => by
    cases ho : ops[j]? with
    | none => rw [ho] at hj; cases hj
    | some p =>
      rw [ho] at hj
      exact hd j p d ho hj hlt (waitsB_for hw), fun d hn => hb d fun j p hj => noDstB_spec hn j p hj, fun _ => rfl, fun _ => rfl, fun _ => rfl⟩
  have hpr' : ∀ j, j < ops.size → waitsB o j = true → Pr j (v j) w := fun j hj hw => hpr j hj (waitsB_for hw)
  have he := hPj _ _ (E.get hpr' j d h1 h2 h3 h4)
  rw [wanted_gd hg h1 he, ← hC]
  cases hc : C with
  | true =>
    rw [if_pos rfl]
    have hr := h a.eval w v hRw E hpr' hc
    unfold Oper.wp
    rw [hr]
    have := hp w
    rw [hc] at this
    exact ⟨u, rfl, hR w, this⟩
  | false =>
    rw [if_neg (by simp)]
    have := hp w
    rw [hc] at this
    exact this
/-- A guarded call. -/
theorem OpOk.gdCall {a0 : Act} {w0 : World} {R : World → World → Prop} {Pr : Nat → Value → World → Prop} {i : Nat} {o : Oper} (j d : Nat) (b Cj bj : Bool) (hPj : ∀ v w, Pr j v w → v = gv Cj (.bool bj)) (C : Bool) (hC : C = (Cj && (bj == b))) (u : Value) (hp : ∀ w, Pr i (gv C u) w)
    (h : ∀ (ev : Operand → Value) (w : World) (v : Nat → Value), R w0 w → EvOk ops a0 o v ev → (∀ j, j < ops.size → waitsB o j = true → Pr j (v j) w) → C = true → ∃ f args, (execOp ev o).run P w = .ok (.enter f args) w ∧ Calls P f args w fun e w' => e = .returned u ∧ R w w')
    (hg : o.guard = some (j, b) := by rfl) (h1 : (ops[j]?).bind (·.dst) = some d := by rfl) (h2 : waitsB o j = true := by kernel_rfl) (h3 : Nat.blt d a0.tmps.size = true := by kernel_rfl) (h4 : Nat.blt j ops.size = true := by kernel_rfl) : OpOk P ops a0 w0 R Pr i o := by
  intro a w v Q hRw hd hpr hb
  have E : EvOk ops a0 o v a.eval := ⟨fun j d hj hw hlt => by
    cases ho : ops[j]? with
    | none => rw [ho] at hj; cases hj
    | some p =>
      rw [ho] at hj
      exact hd j p d ho hj hlt (waitsB_for hw), fun d hn => hb d fun j p hj => noDstB_spec hn j p hj, fun _ => rfl, fun _ => rfl, fun _ => rfl⟩
  have hpr' : ∀ j, j < ops.size → waitsB o j = true → Pr j (v j) w := fun j hj hw => hpr j hj (waitsB_for hw)
  have he := hPj _ _ (E.get hpr' j d h1 h2 h3 h4)
  rw [wanted_gd hg h1 he, ← hC]
  cases hc : C with
  | true =>
    rw [if_pos rfl]
    obtain ⟨f, args, hr, hcl⟩ := h a.eval w v hRw E hpr' hc
    unfold Oper.wp
    rw [hr]
    refine Calls.mono hcl ?_
    rintro e w' ⟨rfl, h9⟩
    have := hp w'
    rw [hc] at this
    exact ⟨u, rfl, h9, this⟩
  | false =>
    rw [if_neg (by simp)]
    have := hp w
    rw [hc] at this
    exact this
/-- A call whose answer is known. -/
theorem OpOk.ret {a0 : Act} {w0 : World} {R : World → World → Prop} {Pr : Nat → Value → World → Prop} {i : Nat} {o : Oper} (u : Value) (hp : ∀ w, Pr i u w)
    (h : ∀ (ev : Operand → Value) (w : World) (v : Nat → Value), R w0 w → EvOk ops a0 o v ev → (∀ j, j < ops.size → waitsB o j = true → Pr j (v j) w) → ∃ f args, (execOp ev o).run P w = .ok (.enter f args) w ∧ Calls P f args w fun e w' => e = .returned u ∧ R w w') (hg : o.guard = none := by rfl) : OpOk P ops a0 w0 R Pr i o :=
  OpOk.call hg fun ev w v hR E pr => by
    obtain ⟨f, args, hr, hc⟩ := h ev w v hR E pr
    exact ⟨f, args, hr, hc.mono fun e w' h => ⟨u, h.1, h.2, hp w'⟩⟩
end

end Go.Proofs.YticckgmkhgnmfaaDoor

/-
  Two boxes of two cells: an argument's and the result's, in a later world.
-/
set_option linter.unusedVariables false
set_option linter.unusedSimpArgs false
namespace Go.Proofs.YticckgmkhgnmfaaDoor
open Go.RowKit Go.Maps
attribute [local go_sem ↓] Go.wp_at_zero Go.wp_at_succ

/-- The boxes of an argument and of a result, each of two cells, in a later world. -/
theorem box22 {w W : World} {a0 a1 c0 c1 : Value} {s t : TypeId} (h : Below (w.heap.size + 2) ((w.alloc (.cells #[a0, a1] s)).alloc (.cells #[c0, c1] t)) W) :
    (W.cell? ⟨w.heap.size, 0, none⟩ = some a0 ∧ W.cell? ⟨w.heap.size, 1, none⟩ = some a1) ∧ (W.cell? ⟨w.heap.size + 1, 0, none⟩ = some c0 ∧ W.cell? ⟨w.heap.size + 1, 1, none⟩ = some c1) ∧ (W.frozen? ⟨w.heap.size + 1, 0, none⟩ = false ∧ W.frozen? ⟨w.heap.size + 1, 1, none⟩ = false) ∧ w.heap.size + 2 ≤ W.heap.size := by
  refine ⟨⟨by rw [h.cell (by simp)]; simp [go_sem], by rw [h.cell (by simp)]; simp [go_sem]⟩, ⟨by rw [h.cell (by simp)]; simp [go_sem], by rw [h.cell (by simp)]; simp [go_sem]⟩, ⟨by rw [h.frozen (by simp)]; simp [go_sem], by rw [h.frozen (by simp)]; simp [go_sem]⟩, by have := h.size; simp at this; omega⟩
theorem unbox2 {w w' : World} {o1 o2 : Obj} {B : Nat} (h : Below B ((w.alloc o1).alloc o2) w') (hB : w.heap.size ≤ B) : Below w.heap.size w w' :=
  (((Below.refl _ _).alloc (Nat.le_refl _) _).alloc (by simp) _).trans (h.mono hB)

/-- What is written into the result's box turns nothing else. -/
theorem ret_block {W : World} {s b : Nat} (a c : Value) (hne : b ≠ s) : ((W.setCell ⟨s, 0, none⟩ a).setCell ⟨s, 1, none⟩ c).heap[b]? = W.heap[b]? :=
  (Below.heap_setCell _ _ _ _ (fun e => hne e)).trans (Below.heap_setCell _ _ _ _ (fun e => hne e))
theorem ret_below {B : Nat} {w W : World} {s : Nat} (h : Below B w W) (hB : B ≤ s) (a c : Value) : Below B w ((W.setCell ⟨s, 0, none⟩ a).setCell ⟨s, 1, none⟩ c) := (h.setCell hB a).setCell hB c

end Go.Proofs.YticckgmkhgnmfaaDoor

/-
  The document's Reweigh answers the weights that 'resOf' tells, in new memory.
-/
set_option linter.unusedVariables false
set_option linter.unusedSimpArgs false
namespace Go.Proofs.YticckgmkhgnmfaaDoor
open Go.RowKit Go.Maps
attribute [local go_sem ↓] Go.wp_at_zero Go.wp_at_succ

theorem resOf_bad {p : Int} {n : Nat} {F T G : Nat → Int} {m : Nat} {A B C : Nat → Int} (h : graphB p n F T G = false) : resOf p n F T G m A B C = none := by simp [resOf, h]
theorem resOf_good {p : Int} {n : Nat} {F T G : Nat → Int} {m : Nat} {A B C : Nat → Int} (h : graphB p n F T G = true) : resOf p n F T G m A B C = rw' F T G A B C n m := by simp [resOf, h]
/-- What stands in memory while the document's Reweigh goes through the new arcs: the copy in its box, its weights so far, all else as it was. -/
structure RwI (w w2 : World) (p : Int) (ao : Option Addr) (n cap g capg : Nat) (F T H : Nat → Int) (wr : World) : Prop where
  o0 : wr.cell? ⟨w2.heap.size, 0, none⟩ = some (.int .i64 p)
  o1 : wr.cell? ⟨w2.heap.size, 1, none⟩ = some (.slice (some ⟨g, 0, none⟩) n capg)
  has : 0 < n → Has wr g n (ar F T H)
  bel : Below (w.heap.size + 2) ((w.alloc (.cells #[.int .i64 p, .slice ao n cap] 40)).alloc (.cells #[.int .i64 0, .slice none 0 0] 40)) wr
theorem RwI.drewN {w w2 : World} {p : Int} {ao : Option Addr} {n cap g capg : Nat} {F T H : Nat → Int} {wr : World} (h : RwI w w2 p ao n cap g capg F T H wr) (q : Nat) : RwI w w2 p ao n cap g capg F T H (wr.drewN q) :=
  ⟨h.o0, h.o1, h.has, below_drewN h.bel q⟩
theorem RwI.drew {w w2 : World} {p : Int} {ao : Option Addr} {n cap g capg : Nat} {F T H : Nat → Int} {wr : World} (h : RwI w w2 p ao n cap g capg F T H wr) : RwI w w2 p ao n cap g capg F T H wr.drew :=
  ⟨h.o0, h.o1, h.has, h.bel.drew⟩
theorem RwI.weights {w w2 : World} {p : Int} {ao : Option Addr} {n cap g capg : Nat} {F T H H' : Nat → Int} {wr : World} (h : RwI w w2 p ao n cap g capg F T H wr) (e : ∀ i, i < n → H i = H' i) : RwI w w2 p ao n cap g capg F T H' wr :=
  ⟨h.o0, h.o1, fun hp => (h.has hp).weights e, h.bel⟩
theorem RwI.store {w w2 : World} {p : Int} {ao : Option Addr} {n cap g capg : Nat} {F T H : Nat → Int} {wr : World} (h : RwI w w2 p ao n cap g capg F T H wr) (h1 : w.heap.size + 2 ≤ g) (h2 : g < w2.heap.size) (k : Nat) (c : Int) :
    RwI w w2 p ao n cap g capg F T (fun i => if i = k then c else H i) (wr.setCell ⟨g, k * 3 + 2, none⟩ (.int .i64 c)) :=
  ⟨by rw [← h.o0]; exact World.cell?_of_block (Below.heap_setCell _ _ _ _ (by simp; omega)), by rw [← h.o1]; exact World.cell?_of_block (Below.heap_setCell _ _ _ _ (by simp; omega)), fun hp => (h.has hp).weigh k c, h.bel.setCell (by simpa using h1) _⟩
set_option maxHeartbeats 4000000 in
theorem specReweigh_own (p : Int) (ao : Option Addr) (n cap : Nat) (F T G : Nat → Int) (ao2 : Option Addr) (m cap2 : Nat) (A B C : Nat → Int) (hn : n ≤ 1048576) (hm : m ≤ 1048576) (w : World) (hr : Row w ao n F T G) (hr2 : Row w ao2 m A B C)
    (p' : Int) (n' : Nat) (H' : Nat → Int) (ok : Bool) (hres : IsRes (resOf p n F T G m A B C) p n p' n' H' ok) :
    Calls Tryd.prog 34 #[.agg #[.int .i64 p, .slice ao n cap], .slice ao2 m cap2] w fun e w' => ∃ ao' cap', e = .returned (.tuple #[.agg #[.int .i64 p', .slice ao' n' cap'], .bool ok]) ∧ OwnS w' w.heap.size ao' n' (ar F T H') ∧ Below w.heap.size w w' := by
  rcases Bool.eq_false_or_eq_true (graphB p n F T G) with h | h
  rotate_left
  · rcases hres with ⟨hr0, _⟩ | ⟨_, rfl, rfl, rfl⟩
    · rw [resOf_bad h] at hr0; cases hr0
    go_enter Tryd.func34, Tryd.ntmps34
    go_wp2_with (first | (go_at_call 32; refine (specGraphOk_any p ao n cap F T G hn _ ((hr.alloc _).alloc _)).mono ?_; rintro e w1 ⟨rfl, hb1⟩; obtain ⟨⟨q0, q1⟩, ⟨q2, q3⟩, ⟨q4, q5⟩, q6⟩ := box22 (hb1.mono (by simp))))
    exact bodyPost_ret (v := .tuple #[.agg #[.int .i64 0, .slice none 0 0], .bool false]) (by simp [results, Tryd.results34, go_sem, q2, q3, q4, q5]) rfl ⟨none, 0, rfl, fun k hk => by omega, (((unbox2 hb1 (by simp; omega)).setCell (by simp) _).setCell (by simp) _)⟩
  go_enter Tryd.func34, Tryd.ntmps34
  go_wp2_with (first | (go_at_call 32; refine (specGraphOk_any p ao n cap F T G hn _ ((hr.alloc _).alloc _)).mono ?_; rintro e w1 ⟨rfl, hb1⟩; have hA := hb1.mono (B' := w.heap.size + 2) (by simp); obtain ⟨⟨q0, q1⟩, ⟨q2, q3⟩, ⟨q4, q5⟩, q6⟩ := box22 hA) | (go_at_call 57; refine (l1Copy_any p ao n cap F T G hn _ (((hr.alloc _).alloc _).below hb1 (Nat.le_refl _))).mono ?_; rintro e w2 ⟨g, capg, rfl, hg1, hg2, hhas, hb2⟩; have hA := below_next hA (by simp) hb2))
  have hg1' : w.heap.size + 2 ≤ g := by omega
  have hA2 : Below (w.heap.size + 2) _ (w2.alloc (.cells #[.int .i64 p, .slice (some ⟨g, 0, none⟩) n capg] 40)) := hA.alloc (by have := hA.size; simp at this; omega) _
  have hI : RwI w w2 p ao n cap g capg F T G (w2.alloc (.cells #[.int .i64 p, .slice (some ⟨g, 0, none⟩) n capg] 40)) :=
    ⟨by simp [go_sem], by simp [go_sem], fun hp => (hhas hp).below ((Below.refl w2.heap.size _).alloc (Nat.le_refl _) _) hg2, hA2⟩
  have HR : Hid (IsRes (rw' F T G A B C n m) p n p' n' H' ok) := by rw [resOf_good h] at hres; exact hres
  clear hres hb1 hb2 hA hA2 q0 q1 q2 q3 q4 q5 q6 hhas hg1
  go_loopw [7] (fun x wr => ∃ i : Nat, i ≤ m ∧ x = .int .i64 i ∧ ∃ H, Hid (rw' F T G A B C n i = some H) ∧ RwI w w2 p ao n cap g capg F T H wr) (fun x _ => m - (intOf x).toNat)
  case atStart => exact ⟨0, Nat.zero_le _, rfl, G, rfl, hI⟩
  case round =>
    obtain ⟨i, hi, rfl, H, hrw, hI⟩ := hrel
    obtain ⟨⟨q0, q1⟩, ⟨q2, q3⟩, ⟨q4, q5⟩, q6⟩ := box22 hI.bel
    have o0 := hI.o0
    have o1 := hI.o1
    by_cases hlt : i < m
    rotate_left
    · have e : i = m := by omega
      subst e
      go_wp2
      obtain ⟨hr0, rfl, rfl, rfl⟩ | ⟨hr0, _⟩ := HR.out
      rotate_left
      · rw [hrw.out] at hr0; cases hr0
      obtain rfl : H = H' := by rw [hrw.out] at hr0; simpa using hr0
      have hne : ∀ x : Addr, x.block = w.heap.size + 1 → g ≠ x.block := fun x e => by omega
      refine bodyPost_ret (v := .tuple #[.agg #[.int .i64 p', .slice (some ⟨g, 0, none⟩) n' capg], .bool true]) (by simp [results, Tryd.results34, go_sem, q2, q3, q4, q5]) rfl ⟨_, capg, rfl, fun k hk => ?_, ?_⟩
      · exact ⟨g, rfl, by omega, ((hI.has (by omega)).of_block (Below.heap_setCell _ _ _ _ (hne _ rfl))).of_block (Below.heap_setCell _ _ _ _ (hne _ rfl))⟩
      · exact ((unbox2 hI.bel (by omega)).setCell (by simp) _).setCell (by simp) _
    obtain ⟨b2, o2, hao2, a0, a1, a2⟩ := (hr2.below (unbox2 hI.bel (by omega)) (Nat.le_refl _)) i hlt
    subst hao2
    go_wp2
    go_loopw [8, 9] (fun fd x wr => ∃ k : Nat, k ≤ n ∧ x = .int .i64 k ∧ fd = .bool (hit F T (A i) (B i) k) ∧ RwI w w2 p ao n cap g capg F T (part F T H (A i) (B i) (C i) k) wr) (fun _ x _ => n - (intOf x).toNat)
    case atStart => exact ⟨0, Nat.zero_le _, rfl, rfl, hI.weights (fun i _ => (part_zero i).symm)⟩
    case round =>
      clear q0 q1 q2 q3 q4 q5 q6 o0 o1 a0 a1 a2 hI
      obtain ⟨k, hk, rfl, rfl, hI⟩ := hrel
      have o0 := hI.o0
      have o1 := hI.o1
      obtain ⟨⟨q0, q1⟩, ⟨q2, q3⟩, ⟨q4, q5⟩, q6⟩ := box22 hI.bel
      obtain ⟨b2', o2', hao2', a0, a1, a2⟩ := (hr2.below (unbox2 hI.bel (by omega)) (Nat.le_refl _)) i hlt
      simp only [Option.some.injEq, Addr.mk.injEq, and_true] at hao2'
      obtain ⟨rfl, rfl⟩ := hao2'
      by_cases hlk : k < n
      rotate_left
      · have e : k = n := by omega
        subst e
        have hfin := hI.weights (fun i' hi' => part_all hi')
        rcases Bool.eq_false_or_eq_true (hit F T (A i) (B i) k) with hh | hh
        · rcases Bool.eq_false_or_eq_true (inB (C i) 1 1000000) with hc | hc
          · go_wp2_with (first | (go_at_call 21; refine (l1In_any _ _ _ _).mono ?_; rintro e w1 ⟨rfl, rfl⟩))
            go_roundw
            case rel => exact ⟨i + 1, by omega, by go_num, _, rw'_yes hrw.out hh hc, hfin⟩
            case measure => simp [intOf]; omega
          · go_wp2_with (first | (go_at_call 21; refine (l1In_any _ _ _ _).mono ?_; rintro e w1 ⟨rfl, rfl⟩))
            obtain ⟨hr0, _⟩ | ⟨_, rfl, rfl, rfl⟩ := HR.out
            · rw [rw'_none (rw'_no hrw.out (Or.inr hc)) m (by omega)] at hr0; cases hr0
            exact bodyPost_ret (v := .tuple #[.agg #[.int .i64 0, .slice none 0 0], .bool false]) (by simp [results, Tryd.results34, go_sem, q2, q3, q4, q5]) rfl ⟨none, 0, rfl, fun k hk => by omega, ((unbox2 hfin.bel (by omega)).setCell (by simp) _).setCell (by simp) _⟩
        · go_wp2_with (first | (go_at_call 21; refine (l1In_any _ _ _ _).mono ?_; rintro e w1 ⟨rfl, rfl⟩))
          obtain ⟨hr0, _⟩ | ⟨_, rfl, rfl, rfl⟩ := HR.out
          · rw [rw'_none (rw'_no hrw.out (Or.inl hh)) m (by omega)] at hr0; cases hr0
          exact bodyPost_ret (v := .tuple #[.agg #[.int .i64 0, .slice none 0 0], .bool false]) (by simp [results, Tryd.results34, go_sem, q2, q3, q4, q5]) rfl ⟨none, 0, rfl, fun k hk => by omega, ((unbox2 hfin.bel (by omega)).setCell (by simp) _).setCell (by simp) _⟩
      have hH := hI.has (by omega)
      have d0 : wr.cell? ⟨g, k * 3, none⟩ = some (.int .i64 (F k)) := by rw [hH.cell (by omega), ar0]
      have d1 : wr.cell? ⟨g, k * 3 + 1, none⟩ = some (.int .i64 (T k)) := by rw [hH.cell (by omega), ar1]
      have d2 := hH.cell (j := k * 3 + 2) (by omega)
      have z2 := hH.frozen (k * 3 + 2)
      clear hH
      rcases Bool.eq_false_or_eq_true (F k == A i) with hF | hF
      · rcases Bool.eq_false_or_eq_true (T k == B i) with hT | hT
        · go_wp2
          go_quiet (fail)
          go_wp2
          go_region
          go_wp2
          have eF : F k = A i := by simpa using hF
          have eT : T k = B i := by simpa using hT
          go_roundw
          case rel => exact ⟨k + 1, by omega, by go_num, by simp [hit, hF, hT], (((hI.drewN _).drew).store hg1' hg2 k (C i)).weights (fun i' _ => part_hit eF eT i')⟩
          case measure => simp [intOf]; omega
        · have eT : ¬ T k = B i := by simpa using hT
          have ET : Hid (¬ T k = B i) := eT
          clear eT
          go_wp2
          go_quiet (fail)
          go_wp2
          go_roundw
          case rel => exact ⟨k + 1, by omega, by go_num, by simp [hit, hF, hT], (hI.drewN _).weights (fun i' _ => part_miss (fun h => ET.out h.2) i')⟩
          case measure => simp [intOf]; omega
      · have eF : ¬ F k = A i := by simpa using hF
        have EF : Hid (¬ F k = A i) := eF
        clear eF
        go_wp2
        go_quiet (fail)
        go_wp2
        go_roundw
        case rel => exact ⟨k + 1, by omega, by go_num, by simp [hit, hF], (hI.drewN _).weights (fun i' _ => part_miss (fun h => EF.out h.1) i')⟩
        case measure => simp [intOf]; omega

theorem specReweigh_any (p : Int) (ao : Option Addr) (n cap : Nat) (F T G : Nat → Int) (ao2 : Option Addr) (m cap2 : Nat) (A B C : Nat → Int) (hn : n ≤ 1048576) (hm : m ≤ 1048576) (w : World) (hr : Row w ao n F T G) (hr2 : Row w ao2 m A B C)
    (p' : Int) (n' : Nat) (H' : Nat → Int) (ok : Bool) (hres : IsRes (resOf p n F T G m A B C) p n p' n' H' ok) :
    Calls Tryd.prog 34 #[.agg #[.int .i64 p, .slice ao n cap], .slice ao2 m cap2] w fun e w' => ∃ ao' cap', e = .returned (.tuple #[.agg #[.int .i64 p', .slice ao' n' cap'], .bool ok]) ∧ Row w' ao' n' F T H' ∧ Below w.heap.size w w' :=
  (specReweigh_own p ao n cap F T G ao2 m cap2 A B C hn hm w hr hr2 p' n' H' ok hres).mono (fun e w' ⟨ao', cap', h1, h2, h3⟩ => ⟨ao', cap', h1, h2.row, h3⟩)

end Go.Proofs.YticckgmkhgnmfaaDoor

/-
  'copy' of arcs from one list into a list of the call's own, as a law for the walk.
-/
set_option linter.unusedVariables false
set_option linter.unusedSimpArgs false
namespace Go.Proofs.YticckgmkhgnmfaaDoor
open Go.RowKit Go.Maps

theorem length_cellsOf (f : Nat → Int) (m : Nat) : (cellsOf f m).length = m := by simp [cellsOf]
theorem run_copy_arcs (w : World) (ty : TypeId) (g n cap : Nat) (b o sCap : Nat) (F T G f0 : Nat → Int) (hr : Row w (some ⟨b, o, none⟩) n F T G) (hown : Own w g n f0) :
    (Builtin.copy_ #[38, 38] ty #[.slice (some ⟨g, 0, none⟩) n cap, .slice (some ⟨b, o, none⟩) n sCap]).run Tryd.prog w = .ok (goInt n) (w.setRow g (cellsOf (ar F T G) (n * 3)).toArray) := by
  obtain ⟨i0, hi0, _, hz1, _⟩ := info_parts Tryd.infoArc
  obtain ⟨cur, hb, hcs, hc⟩ := hown
  have hl := run_loadCells_list (P := Tryd.prog) w ⟨b, o, none⟩ (cellsOf (ar F T G) (n * 3)) (Row.news hr)
  have hst := run_storeCells_at Tryd.prog g 0 82 (cellsOf (ar F T G) (n * 3)) 0 cur w hb (by rw [length_cellsOf]; omega) (cellsOf_one _ _)
  have hd : cur.toList.drop (n * 3) = [] := List.drop_eq_nil_of_le (by simp; omega)
  rw [length_cellsOf] at hl hst
  simp [hd] at hst
  simp [Builtin.copy_, run_underlying Tryd.underlying38, Builtin.lenOf, Builtin.firstCells, sizeOf, typeInfo, hi0, hz1, hl, hst]

theorem run_copy_zero (w : World) (ty : TypeId) (g cap : Nat) (ao : Option Addr) (sCap : Nat) :
    (Builtin.copy_ #[38, 38] ty #[.slice (some ⟨g, 0, none⟩) 0 cap, .slice ao 0 sCap]).run Tryd.prog w = .ok (goInt 0) w := by
  obtain ⟨i0, hi0, _, hz1, _⟩ := info_parts Tryd.infoArc
  have hl : ∀ (x : Addr), (loadCells x 0).run Tryd.prog w = .ok #[] w := fun x => by simpa using run_loadCells_list (P := Tryd.prog) w x [] (by simp)
  cases ao <;> simp [Builtin.copy_, run_underlying Tryd.underlying38, Builtin.lenOf, Builtin.firstCells, sizeOf, typeInfo, hi0, hz1, storeCells, hl]

theorem wpList_copy_arcs {w : World} {ops : Array Oper} {rest : List Oper} {o : Oper} {a : Act} {Q : Exit → Act → World → Prop} (hgd : o.guard = none) (d s : Operand)
    (ho : o.op = .call { callee := .builtin .copy, args := #[d, s], argTypes := #[38, 38] }) (g n cap : Nat) (ao : Option Addr) (sCap : Nat) (F T G f0 : Nat → Int)
    (hd : a.eval d = .slice (some ⟨g, 0, none⟩) n cap) (hs : a.eval s = .slice ao n sCap) (hr : Row w ao n F T G) (hown : Own w g n f0)
    (h : ∀ w', Own w' g n (ar F T G) → w.grownBy w' (some g) → wpList Tryd.prog ops Q rest (a.put o.dst (goInt n)) w') : wpList Tryd.prog ops Q (o :: rest) a w := by
  refine wpList_plain hgd fun K hK => ?_
  by_cases hp : 0 < n
  · obtain ⟨b, o', e, _⟩ := hr 0 hp
    subst e
    have hrun := run_copy_arcs w o.type g n cap b o' sCap F T G f0 hr hown
    unfold Oper.wp
    simp [execOp, ho, resolve, invoke, builtin, hd, hs, hrun, Result.andThen]
    obtain ⟨cur, hb, hcs, hc⟩ := hown
    refine hK _ _ (h _ ⟨_, setRow_heap w g cur _ _ _ hb, by simp [length_cellsOf], fun j hj => ?_⟩ ⟨rfl, rfl, rfl, by simp [World.setRow], fun k _ hne => setRow_other w g k _ (fun e => hne (by rw [e]))⟩)
    rw [List.getElem?_toArray, cellsOf, List.getElem?_map, List.getElem?_range hj]
    rfl
  · have e : n = 0 := by omega
    subst e
    have hrun := run_copy_zero w o.type g cap ao sCap
    unfold Oper.wp
    simp [execOp, ho, resolve, invoke, builtin, hd, hs, hrun, Result.andThen]
    exact hK _ _ (h _ (World.rowIs.congr hown (fun j hj => by omega)) (World.grownBy.refl _ _))

end Go.Proofs.YticckgmkhgnmfaaDoor
