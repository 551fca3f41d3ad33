/-
  The document's ReadCommand: what it reads, plainly. For every text of at most 2^20 bytes.
-/
import Derived.Test.YtcmeppjfjledfakDoorNumsR
import Derived.Test.YtcmeppjfjledfakDoorArcL
import Derived.Test.YtcmeppjfjledfakDoorCmdS
import Derived.Test.YtcmeppjfjledfakDoorSteps
set_option linter.unusedVariables false
set_option linter.unusedSimpArgs false
namespace Go.Proofs.YtcmeppjfjledfakDoor
open Go.RowKit Go.Maps
attribute [local go_sem ↓] Go.wp_at_zero Go.wp_at_succ

def askR (T : Option (List Int)) : Option (Int × List Int) := match T with | some ns => if ns.length = 2 then some (3, ns) else none | none => none
def weighR (T : Option (List Int)) : Option (Int × List Int) := match T with | some ns => if ns.length % 3 = 0 then some (2, ns) else none | none => none
theorem zeroCmd (F T G : Nat → Int) : cmdB 0 0 F T G 0 0 = false := by simp [cmdB]
theorem oneCmd (F T G : Nat → Int) : cmdB 1 0 F T G 0 0 = true := by simp [cmdB]
theorem beqT {l m : List UInt8} (h : l = m) : (l == m) = true := by simp [h]
theorem beqF {l m : List UInt8} (h : l ≠ m) : (l == m) = false := by simp [h]

set_option maxHeartbeats 2000000 in
set_option maxRecDepth 20000 in
theorem specRead_none (s : ByteArray) (hs : s.size ≤ 1048576) (hN : (s.toList == [110, 111, 110, 101]) = true) (w : World) :
    Calls Tryd.prog 30 #[.string s] w fun e w' => CAns w w' e (some (1, [])) := by
  obtain ⟨v1, v2, hB, hsz⟩ := c4_two w (.int .i64 0) (.slice none 0 0) (.int .i64 0) (.int .i64 0) (.int .i64 1) (.slice none 0 0) (.int .i64 0) (.int .i64 0) 64
  go_enter Tryd.func30, Tryd.ntmps30
  go_wp2_with fail
  generalize ((w.alloc (.cells #[.int .i64 0, .slice none 0 0, .int .i64 0, .int .i64 0] 64)).alloc (.cells #[.int .i64 1, .slice none 0 0, .int .i64 0, .int .i64 0] 64)) = W at v1 v2 hB hsz ⊢
  refine (specCommandOk_any 1 none 0 0 (fun _ => 0) (fun _ => 0) (fun _ => 0) 0 0 (by omega) _ (fun k hk => by omega)).mono ?_
  rintro e w1 ⟨rfl, hb1⟩
  rw [oneCmd]
  replace v1 := v1.next hb1
  replace v2 := v2.next hb1
  replace hB := below_next hB (Nat.le_refl _) hb1
  have r0 := v1.cell (j := 0) (by omega)
  have r1 := v1.cell (j := 1) (by omega)
  have r2 := v1.cell (j := 2) (by omega)
  have r3 := v1.cell (j := 3) (by omega)
  have s0 : w1.cell? ⟨w.heap.size + 1, 0, none⟩ = some (.int .i64 1) := v2.cell (j := 0) (by omega)
  have s1 : w1.cell? ⟨w.heap.size + 1, 1, none⟩ = some (.slice none 0 0) := v2.cell (j := 1) (by omega)
  have s2 : w1.cell? ⟨w.heap.size + 1, 2, none⟩ = some (.int .i64 0) := v2.cell (j := 2) (by omega)
  have s3 : w1.cell? ⟨w.heap.size + 1, 3, none⟩ = some (.int .i64 0) := v2.cell (j := 3) (by omega)
  have fz := fun j => v1.frozen j
  clear hb1 v2
  go_wp2
  obtain ⟨q0, q1, q2, q3⟩ := st4 v1 (.int .i64 1) (.slice none 0 0) (.int .i64 0) (.int .i64 0)
  exact bodyPost_ret (v := .tuple #[.agg #[.int .i64 1, .slice none 0 0, .int .i64 0, .int .i64 0], .bool true]) (by simp [results, Tryd.results30, go_sem, q0, q1, q2, q3]) rfl ⟨none, 0, rfl, owns_none _ _ _ _, st4_below hB (Nat.le_refl _) _ _ _ _⟩

set_option maxHeartbeats 2000000 in
set_option maxRecDepth 20000 in
/-- None of the three. -/
theorem specRead_zero (s : ByteArray) (hs : s.size ≤ 1048576) (hN : (s.toList == [110, 111, 110, 101]) = false) (hA : 4 < s.size → ((s.extract 0 4).toList == [97, 115, 107, 32]) = false) (hW : 6 < s.size → ((s.extract 0 6).toList == [119, 101, 105, 103, 104, 32]) = false) (w : World) :
    Calls Tryd.prog 30 #[.string s] w fun e w' => CAns w w' e none := by
  obtain ⟨v1, v2, hB, hsz⟩ := c4_two w (.int .i64 0) (.slice none 0 0) (.int .i64 0) (.int .i64 0) (.int .i64 0) (.slice none 0 0) (.int .i64 0) (.int .i64 0) 64
  have HCO : Hid (∀ W, Calls Tryd.prog 39 #[.agg #[.int .i64 0, .slice none 0 0, .int .i64 0, .int .i64 0]] W fun e w' => e = .returned (.bool false) ∧ Below W.heap.size W w') := fun W => by
    have := specCommandOk_any 0 none 0 0 (fun _ => 0) (fun _ => 0) (fun _ => 0) 0 0 (by omega) W (fun k hk => by omega)
    rwa [zeroCmd] at this
  have hcase : (¬ 4 < s.size) ∨ (4 < s.size ∧ ¬ 6 < s.size ∧ ((s.extract 0 4).toList == [97, 115, 107, 32]) = false) ∨ (6 < s.size ∧ ((s.extract 0 4).toList == [97, 115, 107, 32]) = false ∧ ((s.extract 0 6).toList == [119, 101, 105, 103, 104, 32]) = false) := by
    by_cases h4 : 4 < s.size
    · by_cases h6 : 6 < s.size
      · exact .inr (.inr ⟨h6, hA h4, hW h6⟩)
      · exact .inr (.inl ⟨h4, h6, hA h4⟩)
    · exact .inl h4
  clear hA hW
  rcases hcase with h4 | ⟨h4, h6, hA⟩ | ⟨h6, hA, hW⟩
  · have h4' : ¬ (4 : Int) < (s.size : Int) := by omega
    have h6' : ¬ (6 : Int) < (s.size : Int) := by omega
    go_enter Tryd.func30, Tryd.ntmps30
    go_wp2_with fail
    generalize ((w.alloc (.cells #[.int .i64 0, .slice none 0 0, .int .i64 0, .int .i64 0] 64)).alloc (.cells #[.int .i64 0, .slice none 0 0, .int .i64 0, .int .i64 0] 64)) = W at v1 v2 hB hsz ⊢
    refine (HCO.out _).mono ?_
    rintro e w1 ⟨rfl, hb1⟩
    replace v1 := v1.next hb1
    replace hB := below_next hB (Nat.le_refl _) hb1
    have r0 := v1.cell (j := 0) (by omega)
    have r1 := v1.cell (j := 1) (by omega)
    have r2 := v1.cell (j := 2) (by omega)
    have r3 := v1.cell (j := 3) (by omega)
    have fz := fun j => v1.frozen j
    clear hb1 v2
    go_wp2
    obtain ⟨q0, q1, q2, q3⟩ := st4 v1 (.int .i64 0) (.slice none 0 0) (.int .i64 0) (.int .i64 0)
    exact bodyPost_ret (v := .tuple #[.agg #[.int .i64 0, .slice none 0 0, .int .i64 0, .int .i64 0], .bool false]) (by simp [results, Tryd.results30, go_sem, q0, q1, q2, q3]) rfl ⟨none, 0, rfl, owns_none _ _ _ _, st4_below hB (Nat.le_refl _) _ _ _ _⟩
  · have h4' : (4 : Int) < (s.size : Int) := by omega
    have h6' : ¬ (6 : Int) < (s.size : Int) := by omega
    go_enter Tryd.func30, Tryd.ntmps30
    go_wp2_with fail
    generalize ((w.alloc (.cells #[.int .i64 0, .slice none 0 0, .int .i64 0, .int .i64 0] 64)).alloc (.cells #[.int .i64 0, .slice none 0 0, .int .i64 0, .int .i64 0] 64)) = W at v1 v2 hB hsz ⊢
    refine (HCO.out _).mono ?_
    rintro e w1 ⟨rfl, hb1⟩
    replace v1 := v1.next hb1
    replace hB := below_next hB (Nat.le_refl _) hb1
    have r0 := v1.cell (j := 0) (by omega)
    have r1 := v1.cell (j := 1) (by omega)
    have r2 := v1.cell (j := 2) (by omega)
    have r3 := v1.cell (j := 3) (by omega)
    have fz := fun j => v1.frozen j
    clear hb1 v2
    go_wp2
    obtain ⟨q0, q1, q2, q3⟩ := st4 v1 (.int .i64 0) (.slice none 0 0) (.int .i64 0) (.int .i64 0)
    exact bodyPost_ret (v := .tuple #[.agg #[.int .i64 0, .slice none 0 0, .int .i64 0, .int .i64 0], .bool false]) (by simp [results, Tryd.results30, go_sem, q0, q1, q2, q3]) rfl ⟨none, 0, rfl, owns_none _ _ _ _, st4_below hB (Nat.le_refl _) _ _ _ _⟩
  · have h4' : (4 : Int) < (s.size : Int) := by omega
    have h6' : (6 : Int) < (s.size : Int) := by omega
    go_enter Tryd.func30, Tryd.ntmps30
    go_wp2_with fail
    generalize ((w.alloc (.cells #[.int .i64 0, .slice none 0 0, .int .i64 0, .int .i64 0] 64)).alloc (.cells #[.int .i64 0, .slice none 0 0, .int .i64 0, .int .i64 0] 64)) = W at v1 v2 hB hsz ⊢
    refine (HCO.out _).mono ?_
    rintro e w1 ⟨rfl, hb1⟩
    replace v1 := v1.next hb1
    replace hB := below_next hB (Nat.le_refl _) hb1
    have r0 := v1.cell (j := 0) (by omega)
    have r1 := v1.cell (j := 1) (by omega)
    have r2 := v1.cell (j := 2) (by omega)
    have r3 := v1.cell (j := 3) (by omega)
    have fz := fun j => v1.frozen j
    clear hb1 v2
    go_wp2
    obtain ⟨q0, q1, q2, q3⟩ := st4 v1 (.int .i64 0) (.slice none 0 0) (.int .i64 0) (.int .i64 0)
    exact bodyPost_ret (v := .tuple #[.agg #[.int .i64 0, .slice none 0 0, .int .i64 0, .int .i64 0], .bool false]) (by simp [results, Tryd.results30, go_sem, q0, q1, q2, q3]) rfl ⟨none, 0, rfl, owns_none _ _ _ _, st4_below hB (Nat.le_refl _) _ _ _ _⟩

set_option maxHeartbeats 2000000 in
set_option maxRecDepth 20000 in
theorem specRead_ask (s : ByteArray) (hs : s.size ≤ 1048576) (hN : (s.toList == [110, 111, 110, 101]) = false) (h4 : 4 < s.size) (hA : ((s.extract 0 4).toList == [97, 115, 107, 32]) = true) (w : World) :
    Calls Tryd.prog 30 #[.string s] w fun e w' => CAns w w' e (onlyOk (askR (snums (s.data.toList.drop 4) [] []))) := by
  obtain ⟨v1, v2, hB, hsz⟩ := c4_two w (.int .i64 0) (.slice none 0 0) (.int .i64 0) (.int .i64 0) (.int .i64 0) (.slice none 0 0) (.int .i64 0) (.int .i64 0) 64
  have h4' : (4 : Int) < (s.size : Int) := by omega
  have HNU : Hid (∀ W, Calls Tryd.prog 38 #[.string (s.extract 4 s.size)] W fun e w' => NAns W w' e (snums (s.data.toList.drop 4) [] [])) := fun W => by
    have := l1Numbers_any (s.extract 4 s.size) (by simp; omega) W
    rwa [extract_list, List.take_of_length_le (by simp)] at this
  generalize snums (s.data.toList.drop 4) [] [] = T at HNU ⊢
  obtain ⟨R, hR⟩ : ∃ R, R = onlyOk (askR T) := ⟨_, rfl⟩
  rw [← hR]
  have HR : Hid (R = onlyOk (askR T)) := hR
  clear hR
  go_enter Tryd.func30, Tryd.ntmps30
  go_wp2_with fail
  generalize ((w.alloc (.cells #[.int .i64 0, .slice none 0 0, .int .i64 0, .int .i64 0] 64)).alloc (.cells #[.int .i64 0, .slice none 0 0, .int .i64 0, .int .i64 0] 64)) = W at v1 v2 hB hsz ⊢
  refine (HNU.out _).mono ?_
  rintro e w1 ⟨ns, ok, g, cap, rfl, hT, hln, hown, hb1⟩
  replace v1 := v1.next hb1
  replace v2 := v2.next hb1
  replace hB := below_next hB (Nat.le_refl _) hb1
  have r0 := v1.cell (j := 0) (by omega)
  have r1 := v1.cell (j := 1) (by omega)
  have r2 := v1.cell (j := 2) (by omega)
  have r3 := v1.cell (j := 3) (by omega)
  have fz := fun j => v1.frozen j
  clear hb1 HNU
  have hbad : (ok = false ∨ (ok = true ∧ ns.length ≠ 2)) ∨ (ok = true ∧ ns.length = 2) := by
    cases ok
    · exact .inl (.inl rfl)
    · by_cases h : ns.length = 2
      · exact .inr ⟨rfl, h⟩
      · exact .inl (.inr ⟨rfl, h⟩)
  rcases hbad with hbad | ⟨rfl, hl2⟩
  · have HE : Hid (R = none) := by
      show _ = _
      rw [HR.out]
      rcases hT with ⟨h1, h2⟩ | ⟨h1, h2⟩
      · rcases hbad with h3 | ⟨_, h3⟩
        · rw [h1] at h3; cases h3
        · rw [h2]; simp [h3, onlyOk, askR]
      · rw [h2]; rfl
    clear v2 HR hT
    rcases hbad with rfl | ⟨rfl, hl2⟩
    · go_wp2
      obtain ⟨q0, q1, q2, q3⟩ := st4 v1 (.int .i64 0) (.slice none 0 0) (.int .i64 0) (.int .i64 0)
      exact bodyPost_ret (v := .tuple #[.agg #[.int .i64 0, .slice none 0 0, .int .i64 0, .int .i64 0], .bool false]) (by simp [results, Tryd.results30, go_sem, q0, q1, q2, q3]) rfl (by rw [HE.out]; exact ⟨none, 0, rfl, owns_none _ _ _ _, st4_below hB (Nat.le_refl _) _ _ _ _⟩)
    · have hl2' : ((ns.length : Int) != 2) = true := by simp; omega
      have hl3 : ¬ (ns.length : Int) = 2 := by omega
      clear hl2
      go_wp2
      obtain ⟨q0, q1, q2, q3⟩ := st4 v1 (.int .i64 0) (.slice none 0 0) (.int .i64 0) (.int .i64 0)
      exact bodyPost_ret (v := .tuple #[.agg #[.int .i64 0, .slice none 0 0, .int .i64 0, .int .i64 0], .bool false]) (by simp [results, Tryd.results30, go_sem, q0, q1, q2, q3]) rfl (by rw [HE.out]; exact ⟨none, 0, rfl, owns_none _ _ _ _, st4_below hB (Nat.le_refl _) _ _ _ _⟩)
  obtain ⟨x, y, rfl⟩ : ∃ x y, ns = [x, y] := by
    match ns, hl2 with
    | [x, y], _ => exact ⟨x, y, rfl⟩
  have HR2 : Hid (R = if okC 3 [x, y] = true then some (3, [x, y]) else none) := by
    show _ = _
    rw [HR.out]
    rcases hT with ⟨_, h2⟩ | ⟨h1, _⟩
    · rw [h2]; rfl
    · cases h1
  clear HR hT
  have c0 : w1.cell? ⟨g, 0, none⟩ = some (.int .i64 x) := hown.has.cell (j := 0) (by simp)
  have c1 : w1.cell? ⟨g, 1, none⟩ = some (.int .i64 y) := hown.has.cell (j := 1) (by simp)
  have gb := hown.base
  have s0 : w1.cell? ⟨w.heap.size + 1, 0, none⟩ = some (.int .i64 0) := v2.cell (j := 0) (by omega)
  have s1 : w1.cell? ⟨w.heap.size + 1, 1, none⟩ = some (.slice none 0 0) := v2.cell (j := 1) (by omega)
  have s2 : w1.cell? ⟨w.heap.size + 1, 2, none⟩ = some (.int .i64 0) := v2.cell (j := 2) (by omega)
  have s3 : w1.cell? ⟨w.heap.size + 1, 3, none⟩ = some (.int .i64 0) := v2.cell (j := 3) (by omega)
  have fz2 := fun j => v2.frozen j
  clear hown hln hl2
  have hl2 : [x, y].length = 2 := rfl
  simp only [hl2]
  clear hl2
  go_wp2_with fail
  go_region_law (fail)
  all_goals
    have u2 := ((((v2.set 0 (.int .i64 3)).set 1 (.slice none 0 0)).set 2 (.int .i64 x)).set 3 (.int .i64 y)).next ((Below.refl _ _).drew)
    have u1 := ((((v1.other (c := w.heap.size + 1) (i := 0) (by omega) (.int .i64 3)).other (c := w.heap.size + 1) (i := 1) (by omega) (.slice none 0 0)).other (c := w.heap.size + 1) (i := 2) (by omega) (.int .i64 x)).other (c := w.heap.size + 1) (i := 3) (by omega) (.int .i64 y)).next ((Below.refl _ _).drew)
    have uB := (st4_below hB (b := w.heap.size + 1) (by omega) (.int .i64 3) (.slice none 0 0) (.int .i64 x) (.int .i64 y)).drew
    clear v1 v2 hB c0 c1 s0 s1 s2 s3 fz2 r0 r1 r2 r3 fz gb
    have s0 := u2.cell (j := 0) (by omega)
    have s1 := u2.cell (j := 1) (by omega)
    have s2 := u2.cell (j := 2) (by omega)
    have s3 := u2.cell (j := 3) (by omega)
    simp only [reduceIte, reduceCtorEq, Nat.reduceEqDiff] at s0 s1 s2 s3
    generalize (((((w1.setCell ⟨w.heap.size + 1, 0, none⟩ (.int .i64 3)).setCell ⟨w.heap.size + 1, 1, none⟩ (.slice none 0 0)).setCell ⟨w.heap.size + 1, 2, none⟩ (.int .i64 x)).setCell ⟨w.heap.size + 1, 3, none⟩ (.int .i64 y))).drew = X at u1 u2 uB s0 s1 s2 s3 ⊢
    go_wp2_with fail
    refine (specCommandOk_any 3 none 0 0 (at3 [x, y] 0) (at3 [x, y] 0) (at3 [x, y] 0) x y (by omega) _ (fun k hk => by omega)).mono ?_
    rintro e w2 ⟨rfl, hb2⟩
    have hk : cmdB 3 0 (at3 [x, y] 0) (at3 [x, y] 0) (at3 [x, y] 0) x y = okC 3 [x, y] := by simp [okC]
    rw [hk]
    clear hk s0 s1 s2 s3
    replace u1 := u1.next hb2
    replace u2 := u2.next hb2
    replace uB := below_next uB (Nat.le_refl _) hb2
    have s0 := u2.cell (j := 0) (by omega)
    have s1 := u2.cell (j := 1) (by omega)
    have s2 := u2.cell (j := 2) (by omega)
    have s3 := u2.cell (j := 3) (by omega)
    simp only [reduceIte, reduceCtorEq, Nat.reduceEqDiff] at s0 s1 s2 s3
    have r0 := u1.cell (j := 0) (by omega)
    have r1 := u1.cell (j := 1) (by omega)
    have r2 := u1.cell (j := 2) (by omega)
    have r3 := u1.cell (j := 3) (by omega)
    have fz := fun j => u1.frozen j
    clear hb2 u2
    cases hok : okC 3 [x, y]
    · have HE : Hid (R = none) := by
        show _ = _
        rw [HR2.out, hok]
        rfl
      clear HR2
      go_wp2
      obtain ⟨q0, q1, q2, q3⟩ := st4 u1 (.int .i64 0) (.slice none 0 0) (.int .i64 0) (.int .i64 0)
      exact bodyPost_ret (v := .tuple #[.agg #[.int .i64 0, .slice none 0 0, .int .i64 0, .int .i64 0], .bool false]) (by simp [results, Tryd.results30, go_sem, q0, q1, q2, q3]) rfl (by rw [HE.out]; exact ⟨none, 0, rfl, owns_none _ _ _ _, st4_below uB (Nat.le_refl _) _ _ _ _⟩)
    · have HE : Hid (R = some (3, [x, y])) := by
        show _ = _
        rw [HR2.out, hok]
        rfl
      clear HR2
      go_wp2
      obtain ⟨q0, q1, q2, q3⟩ := st4 u1 (.int .i64 3) (.slice none 0 0) (.int .i64 x) (.int .i64 y)
      exact bodyPost_ret (v := .tuple #[.agg #[.int .i64 3, .slice none 0 0, .int .i64 x, .int .i64 y], .bool true]) (by simp [results, Tryd.results30, go_sem, q0, q1, q2, q3]) rfl (by rw [HE.out]; exact cans_ask (st4_below uB (Nat.le_refl _) _ _ _ _))

end Go.Proofs.YtcmeppjfjledfakDoor
