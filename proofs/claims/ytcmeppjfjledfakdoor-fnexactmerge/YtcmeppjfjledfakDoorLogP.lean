/-
  When a list of entries is a log, plainly; the document's LogOk and the program's, by their contracts.
-/
import Derived.Test.YtcmeppjfjledfakDoorEnt
import Derived.Test.YtcmeppjfjledfakDoorRdJ
import Derived.Test.YtcmeppjfjledfakDoorErrIs
import Derived.Test.YtcmeppjfjledfakDoorSkips
set_option linter.unusedVariables false
set_option linter.unusedSimpArgs false
namespace Go.Proofs.YtcmeppjfjledfakDoor
open Go.RowKit
attribute [local go_sem ↓] Go.wp_at_zero Go.wp_at_succ

/-- Is this a Command's text? -/
def isC (x : ByteArray) : Bool := (onlyOk (rdS x.data.toList)).isSome
/-- Entry k stands right in a log. -/
def logAt (T : Nat → Int) (X : Nat → ByteArray) (k : Nat) : Bool := isC (X k) && (decide (1 ≤ T k) && (decide (T k ≤ 100000) && decide (k = 0 ∨ T (k - 1) ≤ T k)))
/-- Are these n entries a log? -/
def logB (n : Nat) (T : Nat → Int) (X : Nat → ByteArray) : Bool := decide (n ≤ 200) && (List.range n).all (logAt T X)
theorem logB_true {n : Nat} {T : Nat → Int} {X : Nat → ByteArray} (h : n ≤ 200) (ha : ∀ k, k < n → logAt T X k = true) : logB n T X = true := by
  unfold logB
  simp only [h, decide_true, Bool.true_and, List.all_eq_true, List.mem_range]
  exact ha
theorem logB_long {n : Nat} {T : Nat → Int} {X : Nat → ByteArray} (h : 200 < n) : logB n T X = false := by
  unfold logB
  rw [decide_eq_false (by omega), Bool.false_and]
theorem logB_bad {n : Nat} {T : Nat → Int} {X : Nat → ByteArray} {k : Nat} (hk : k < n) (ha : logAt T X k = false) : logB n T X = false := by
  unfold logB
  rw [Bool.and_eq_false_iff]
  right
  rw [List.all_eq_false]
  exact ⟨k, List.mem_range.2 hk, by rw [ha]; simp⟩
theorem logB_at {n : Nat} {T : Nat → Int} {X : Nat → ByteArray} (h : logB n T X = true) : n ≤ 200 ∧ ∀ k, k < n → logAt T X k = true := by
  unfold logB at h
  rw [Bool.and_eq_true, List.all_eq_true] at h
  exact ⟨of_decide_eq_true h.1, fun k hk => h.2 k (List.mem_range.2 hk)⟩
theorem logAt_mk {T : Nat → Int} {X : Nat → ByteArray} {k : Nat} (h1 : isC (X k) = true) (h2 : 1 ≤ T k) (h3 : T k ≤ 100000) (h4 : k = 0 ∨ T (k - 1) ≤ T k) : logAt T X k = true := by
  unfold logAt
  rw [h1, decide_eq_true h2, decide_eq_true h3, decide_eq_true h4]; rfl
theorem logAt_out {T : Nat → Int} {X : Nat → ByteArray} {k : Nat} (h : logAt T X k = true) : isC (X k) = true ∧ 1 ≤ T k ∧ T k ≤ 100000 ∧ (k = 0 ∨ T (k - 1) ≤ T k) := by
  unfold logAt at h
  rw [Bool.and_eq_true, Bool.and_eq_true, Bool.and_eq_true] at h
  exact ⟨h.1, of_decide_eq_true h.2.1, of_decide_eq_true h.2.2.1, of_decide_eq_true h.2.2.2⟩
theorem logAt_not {T : Nat → Int} {X : Nat → ByteArray} {k : Nat} (h : ¬ (isC (X k) = true ∧ 1 ≤ T k ∧ T k ≤ 100000 ∧ (k = 0 ∨ T (k - 1) ≤ T k))) : logAt T X k = false := by
  cases e : logAt T X k
  · rfl
  · exact absurd (logAt_out e) h

theorem l10Entry_any (t : Int) (x : ByteArray) (hx : x.size ≤ 1048576) (w : World) :
    Calls Tryd.prog 21 #[.agg #[.int .i64 t, .string x]] w fun e w' => e = .returned (.bool (isC x && inB t 1 100000)) ∧ Below w.heap.size w w' := by
  have hR := fun W => specRead_any x hx W
  unfold isC
  generalize onlyOk (rdS x.data.toList) = R at hR ⊢
  have HR : Hid (∀ W, Calls Tryd.prog 30 #[.string x] W fun e w' => CAns W w' e R) := hR
  clear hR
  go_enter Tryd.func21, Tryd.ntmps21
  go_wp2_with fail
  refine (HR.out _).mono ?_
  rintro e w1 ⟨ao, cap, rfl, _, hb⟩
  have c0 : w1.cell? ⟨w.heap.size, 0, none⟩ = some (.int .i64 t) := by rw [hb.cell (by simp)]; simp [go_sem]
  have hA : Below w.heap.size w w1 := ((Below.refl _ _).alloc (Nat.le_refl _) _).trans (hb.mono (by simp))
  clear hb
  have hA2 := fun o => hA.alloc hA.size o
  have c0' : ∀ o, (w1.alloc o).cell? ⟨w.heap.size, 0, none⟩ = some (.int .i64 t) := fun o => by rw [((Below.refl w1.heap.size w1).alloc (Nat.le_refl _) o).cell (lt_of_cell c0)]; exact c0
  clear c0
  cases hb2 : R.isSome
  · go_wp2
    go_ret
    exact ⟨by rw [hb2]; simp, hA2 _⟩
  · go_wp2_with (go_at_call 13; refine (l1In_any _ _ _ _).mono ?_; rintro e w2 ⟨rfl, hq⟩; have hq' := hq.symm; subst hq'; clear hq)
    go_ret
    exact ⟨by rw [hb2]; simp, hA2 _⟩

set_option maxHeartbeats 1000000 in
theorem specLogOk_any (ao : Option Addr) (n cap : Nat) (T : Nat → Int) (X : Nat → ByteArray) (hn : n ≤ 9223372036854775807) (hX : ∀ k, k < n → (X k).size ≤ 1048576) (w : World) (hr : NRow w ao n T X) :
    Calls Tryd.prog 12 #[.slice ao n cap] w fun e w' => e = .returned (.bool (logB n T X)) ∧ Below w.heap.size w w' := by
  by_cases h200 : 200 < n
  · rw [logB_long h200]
    have h2' : (200 : Int) < (n : Int) := by omega
    go_enter Tryd.func12, Tryd.ntmps12
    go_wp2
    go_ret
    exact ⟨rfl, Below.refl _ _⟩
  have h2' : ¬ (200 : Int) < (n : Int) := by omega
  have HB : Hid ((∀ k, k < n → logAt T X k = true) → logB n T X = true) := fun h => logB_true (by omega) h
  have HN : Hid (∀ k, k < n → logAt T X k = false → logB n T X = false) := fun k h1 h2 => logB_bad h1 h2
  generalize logB n T X = B at HB HN ⊢
  go_enter Tryd.func12, Tryd.ntmps12
  go_wp2
  go_loopw [3] (fun i wr => ∃ k : Nat, k ≤ n ∧ i = .int .i64 k ∧ (∀ j, j < k → logAt T X j = true) ∧ Below w.heap.size w wr) (fun i _ => n - (intOf i).toNat)
  case atStart => exact ⟨0, Nat.zero_le _, rfl, fun j hj => by omega, Below.refl _ _⟩
  case round =>
    obtain ⟨k, hk, rfl, hat, hbel⟩ := hrel
    by_cases hlt : k < n
    rotate_left
    · have hkn : k = n := by omega
      subst hkn
      go_wp2
      go_ret
      exact ⟨by rw [HB.out hat]; rfl, hbel⟩
    obtain ⟨b, o, hao, c0, c1⟩ := (hr.below hbel (Nat.le_refl _)) k hlt
    subst hao
    have hk1 : (0 : Int) ≤ (k : Int) := by omega
    have hk2 : (k : Int) < (n : Int) := by omega
    -- ROUND
    have hEn := fun W => l10Entry_any (T k) (X k) (hX k hlt) W
    obtain ⟨g, hg⟩ : ∃ g, (isC (X k) && inB (T k) 1 100000) = g := ⟨_, rfl⟩
    rw [hg] at hEn
    cases g
    · have HE : ∀ W, Calls Tryd.prog 21 #[.agg #[.int .i64 (T k), .string (X k)]] W fun e w' => e = .returned (.bool false) ∧ Below W.heap.size W w' := hEn
      have hno : logAt T X k = false := logAt_not (fun h => by simp [inB, h.1, h.2.1, h.2.2.1] at hg)
      clear hEn hg
      go_wp2_with fail
      have hS : (fun w' => w'.cell? ⟨b, o + k * 2, none⟩ = some (.int .i64 (T k)) ∧ w'.cell? ⟨b, o + k * 2 + 1, none⟩ = some (.string (X k))) wr.drew := ⟨c0, c1⟩
      refine wp_region_held_drew (S := fun w' => w'.cell? ⟨b, o + k * 2, none⟩ = some (.int .i64 (T k)) ∧ w'.cell? ⟨b, o + k * 2 + 1, none⟩ = some (.string (X k))) (by kernel_rfl) hS (fun hS => ?_)
      refine takeH 0 (some 13) (.slice (some ⟨b, o, none⟩) n cap) rfl rfl (by kernel_rfl) (by kernel_rfl) (by kernel_rfl) (fun _ _ _ h => h) (by rfl) hS (fun w hSw => by go_split_ands; go_simp <;> first | omega | (rw [IntKind.wrap_i64]; omega) | (intro h; exfalso; omega)) ?_
      simp only [Act.put, List.setIfInBounds_toArray, List.set_cons_zero, List.set_cons_succ]
      refine takeH 1 (some 14) (.int .i64 (k : Int)) rfl rfl (by kernel_rfl) (by kernel_rfl) (by kernel_rfl) (fun _ _ _ h => h) (by rfl) hS (fun w hSw => by go_split_ands; go_simp <;> first | omega | (rw [IntKind.wrap_i64]; omega) | (intro h; exfalso; omega)) ?_
      simp only [Act.put, List.setIfInBounds_toArray, List.set_cons_zero, List.set_cons_succ]
      refine takeH 2 (some 15) (.pointer (some ⟨b, o + k * 2, none⟩)) rfl rfl (by kernel_rfl) (by kernel_rfl) (by kernel_rfl) (fun _ _ _ h => h) (by rfl) hS (fun w hSw => by go_split_ands; go_simp <;> first | omega | (rw [IntKind.wrap_i64]; omega) | (intro h; exfalso; omega)) ?_
      simp only [Act.put, List.setIfInBounds_toArray, List.set_cons_zero, List.set_cons_succ]
      refine takeH 3 (some 16) (.agg #[.int .i64 (T k), .string (X k)]) rfl rfl (by kernel_rfl) (by kernel_rfl) (by kernel_rfl) (fun _ _ _ h => h) (by rfl) hS (fun w hSw => by go_split_ands; go_simp <;> first | omega | (rw [IntKind.wrap_i64]; omega) | (intro h; exfalso; omega)) ?_
      simp only [Act.put, List.setIfInBounds_toArray, List.set_cons_zero, List.set_cons_succ]
      refine step1H 4 _ rfl (by kernel_rfl) (by rfl) ?_
      go_simp
      refine (HE _).mono ?_
      rintro e w1 ⟨rfl, hb1⟩
      have hS1 : (fun w' => w'.cell? ⟨b, o + k * 2, none⟩ = some (.int .i64 (T k)) ∧ w'.cell? ⟨b, o + k * 2 + 1, none⟩ = some (.string (X k))) w1 := ⟨keep_cell hb1 (Nat.le_refl _) hS.1, keep_cell hb1 (Nat.le_refl _) hS.2⟩
      refine ⟨hS1, ?_⟩
      refine takeH 5 (some 18) (.bool true) rfl rfl (by kernel_rfl) (by kernel_rfl) (by kernel_rfl) (fun _ _ _ h => h) (by rfl) hS1 (fun w hSw => by go_split_ands; go_simp <;> first | omega | (rw [IntKind.wrap_i64]; omega) | (intro h; exfalso; omega)) ?_
      simp only [Act.put, List.setIfInBounds_toArray, List.set_cons_zero, List.set_cons_succ]
      refine takeH 6 (some 19) (.bool true) rfl rfl (by kernel_rfl) (by kernel_rfl) (by kernel_rfl) (fun _ _ _ h => h) (by rfl) hS1 (fun w hSw => by go_split_ands; go_simp <;> first | omega | (rw [IntKind.wrap_i64]; omega) | (intro h; exfalso; omega)) ?_
      simp only [Act.put, List.setIfInBounds_toArray, List.set_cons_zero, List.set_cons_succ]
      refine skipH 7 (some 20) rfl rfl (by kernel_rfl) (by kernel_rfl) (by kernel_rfl) (fun _ _ _ h => h) (by rfl) hS1 ?_
      simp only [Act.put, List.setIfInBounds_toArray, List.set_cons_zero, List.set_cons_succ]
      refine skipH 8 (some 21) rfl rfl (by kernel_rfl) (by kernel_rfl) (by kernel_rfl) (fun _ _ _ h => h) (by rfl) hS1 ?_
      simp only [Act.put, List.setIfInBounds_toArray, List.set_cons_zero, List.set_cons_succ]
      refine skipH 9 (some 22) rfl rfl (by kernel_rfl) (by kernel_rfl) (by kernel_rfl) (fun _ _ _ h => h) (by rfl) hS1 ?_
      simp only [Act.put, List.setIfInBounds_toArray, List.set_cons_zero, List.set_cons_succ]
      refine skipH 10 (some 23) rfl rfl (by kernel_rfl) (by kernel_rfl) (by kernel_rfl) (fun _ _ _ h => h) (by rfl) hS1 ?_
      simp only [Act.put, List.setIfInBounds_toArray, List.set_cons_zero, List.set_cons_succ]
      refine skipH 11 (some 24) rfl rfl (by kernel_rfl) (by kernel_rfl) (by kernel_rfl) (fun _ _ _ h => h) (by rfl) hS1 ?_
      simp only [Act.put, List.setIfInBounds_toArray, List.set_cons_zero, List.set_cons_succ]
      refine skipH 12 (some 25) rfl rfl (by kernel_rfl) (by kernel_rfl) (by kernel_rfl) (fun _ _ _ h => h) (by rfl) hS1 ?_
      simp only [Act.put, List.setIfInBounds_toArray, List.set_cons_zero, List.set_cons_succ]
      refine skipH 13 (some 26) rfl rfl (by kernel_rfl) (by kernel_rfl) (by kernel_rfl) (fun _ _ _ h => h) (by rfl) hS1 ?_
      simp only [Act.put, List.setIfInBounds_toArray, List.set_cons_zero, List.set_cons_succ]
      refine skipH 14 (some 27) rfl rfl (by kernel_rfl) (by kernel_rfl) (by kernel_rfl) (fun _ _ _ h => h) (by rfl) hS1 ?_
      simp only [Act.put, List.setIfInBounds_toArray, List.set_cons_zero, List.set_cons_succ]
      refine skipH 15 (some 28) rfl rfl (by kernel_rfl) (by kernel_rfl) (by kernel_rfl) (fun _ _ _ h => h) (by rfl) hS1 ?_
      simp only [Act.put, List.setIfInBounds_toArray, List.set_cons_zero, List.set_cons_succ]
      refine skipH 16 (some 29) rfl rfl (by kernel_rfl) (by kernel_rfl) (by kernel_rfl) (fun _ _ _ h => h) (by rfl) hS1 ?_
      simp only [Act.put, List.setIfInBounds_toArray, List.set_cons_zero, List.set_cons_succ]
      refine skipH 17 (some 30) rfl rfl (by kernel_rfl) (by kernel_rfl) (by kernel_rfl) (fun _ _ _ h => h) (by rfl) hS1 ?_
      simp only [Act.put, List.setIfInBounds_toArray, List.set_cons_zero, List.set_cons_succ]
      refine skipH 18 (some 31) rfl rfl (by kernel_rfl) (by kernel_rfl) (by kernel_rfl) (fun _ _ _ h => h) (by rfl) hS1 ?_
      simp only [Act.put, List.setIfInBounds_toArray, List.set_cons_zero, List.set_cons_succ]
      refine skipH 19 (some 32) rfl rfl (by kernel_rfl) (by kernel_rfl) (by kernel_rfl) (fun _ _ _ h => h) (by rfl) hS1 ?_
      simp only [Act.put, List.setIfInBounds_toArray, List.set_cons_zero, List.set_cons_succ]
      refine skipH 20 (some 33) rfl rfl (by kernel_rfl) (by kernel_rfl) (by kernel_rfl) (fun _ _ _ h => h) (by rfl) hS1 ?_
      simp only [Act.put, List.setIfInBounds_toArray, List.set_cons_zero, List.set_cons_succ]
      refine skipH 21 (some 34) rfl rfl (by kernel_rfl) (by kernel_rfl) (by kernel_rfl) (fun _ _ _ h => h) (by rfl) hS1 ?_
      simp only [Act.put, List.setIfInBounds_toArray, List.set_cons_zero, List.set_cons_succ]
      refine skipH 22 (some 35) rfl rfl (by kernel_rfl) (by kernel_rfl) (by kernel_rfl) (fun _ _ _ h => h) (by rfl) hS1 ?_
      simp only [Act.put, List.setIfInBounds_toArray, List.set_cons_zero, List.set_cons_succ]
      refine takeH 23 (some 36) (.bool true) rfl rfl (by kernel_rfl) (by kernel_rfl) (by kernel_rfl) (fun _ _ _ h => h) (by rfl) hS1 (fun w hSw => by go_split_ands; go_simp <;> first | omega | (rw [IntKind.wrap_i64]; omega) | (intro h; exfalso; omega)) ?_
      simp only [Act.put, List.setIfInBounds_toArray, List.set_cons_zero, List.set_cons_succ]
      refine wpAnyH_done (by kernel_rfl) ?_ _
      go_wp2
      go_ret
      exact ⟨by rw [HN.out k hlt hno]; rfl, below_next hbel.drew (Nat.le_refl _) hb1⟩
    have HE : ∀ W, Calls Tryd.prog 21 #[.agg #[.int .i64 (T k), .string (X k)]] W fun e w' => e = .returned (.bool true) ∧ Below W.heap.size W w' := hEn
    have hyes : isC (X k) = true ∧ 1 ≤ T k ∧ T k ≤ 100000 := by
      simp only [inB, Bool.and_eq_true, decide_eq_true_eq] at hg
      exact ⟨hg.1, hg.2.1, hg.2.2⟩
    clear hEn hg
    by_cases h0 : k = 0
    · have hyes' : logAt T X k = true := logAt_mk hyes.1 hyes.2.1 hyes.2.2 (Or.inl h0)
      have hk3 : ¬ (0 : Int) < (k : Int) := by omega
      clear h0
      go_wp2_with fail
      have hS : (fun w' => w'.cell? ⟨b, o + k * 2, none⟩ = some (.int .i64 (T k)) ∧ w'.cell? ⟨b, o + k * 2 + 1, none⟩ = some (.string (X k))) wr.drew := ⟨c0, c1⟩
      refine wp_region_held_drew (S := fun w' => w'.cell? ⟨b, o + k * 2, none⟩ = some (.int .i64 (T k)) ∧ w'.cell? ⟨b, o + k * 2 + 1, none⟩ = some (.string (X k))) (by kernel_rfl) hS (fun hS => ?_)
      refine takeH 0 (some 13) (.slice (some ⟨b, o, none⟩) n cap) rfl rfl (by kernel_rfl) (by kernel_rfl) (by kernel_rfl) (fun _ _ _ h => h) (by rfl) hS (fun w hSw => by go_split_ands; go_simp <;> first | omega | (rw [IntKind.wrap_i64]; omega) | (intro h; exfalso; omega)) ?_
      simp only [Act.put, List.setIfInBounds_toArray, List.set_cons_zero, List.set_cons_succ]
      refine takeH 1 (some 14) (.int .i64 (k : Int)) rfl rfl (by kernel_rfl) (by kernel_rfl) (by kernel_rfl) (fun _ _ _ h => h) (by rfl) hS (fun w hSw => by go_split_ands; go_simp <;> first | omega | (rw [IntKind.wrap_i64]; omega) | (intro h; exfalso; omega)) ?_
      simp only [Act.put, List.setIfInBounds_toArray, List.set_cons_zero, List.set_cons_succ]
      refine takeH 2 (some 15) (.pointer (some ⟨b, o + k * 2, none⟩)) rfl rfl (by kernel_rfl) (by kernel_rfl) (by kernel_rfl) (fun _ _ _ h => h) (by rfl) hS (fun w hSw => by go_split_ands; go_simp <;> first | omega | (rw [IntKind.wrap_i64]; omega) | (intro h; exfalso; omega)) ?_
      simp only [Act.put, List.setIfInBounds_toArray, List.set_cons_zero, List.set_cons_succ]
      refine takeH 3 (some 16) (.agg #[.int .i64 (T k), .string (X k)]) rfl rfl (by kernel_rfl) (by kernel_rfl) (by kernel_rfl) (fun _ _ _ h => h) (by rfl) hS (fun w hSw => by go_split_ands; go_simp <;> first | omega | (rw [IntKind.wrap_i64]; omega) | (intro h; exfalso; omega)) ?_
      simp only [Act.put, List.setIfInBounds_toArray, List.set_cons_zero, List.set_cons_succ]
      refine step1H 4 _ rfl (by kernel_rfl) (by rfl) ?_
      go_simp
      refine (HE _).mono ?_
      rintro e w1 ⟨rfl, hb1⟩
      have hS1 : (fun w' => w'.cell? ⟨b, o + k * 2, none⟩ = some (.int .i64 (T k)) ∧ w'.cell? ⟨b, o + k * 2 + 1, none⟩ = some (.string (X k))) w1 := ⟨keep_cell hb1 (Nat.le_refl _) hS.1, keep_cell hb1 (Nat.le_refl _) hS.2⟩
      refine ⟨hS1, ?_⟩
      refine takeH 5 (some 18) (.bool false) rfl rfl (by kernel_rfl) (by kernel_rfl) (by kernel_rfl) (fun _ _ _ h => h) (by rfl) hS1 (fun w hSw => by go_split_ands; go_simp <;> first | omega | (rw [IntKind.wrap_i64]; omega) | (intro h; exfalso; omega)) ?_
      simp only [Act.put, List.setIfInBounds_toArray, List.set_cons_zero, List.set_cons_succ]
      refine takeH 6 (some 19) (.bool false) rfl rfl (by kernel_rfl) (by kernel_rfl) (by kernel_rfl) (fun _ _ _ h => h) (by rfl) hS1 (fun w hSw => by go_split_ands; go_simp <;> first | omega | (rw [IntKind.wrap_i64]; omega) | (intro h; exfalso; omega)) ?_
      simp only [Act.put, List.setIfInBounds_toArray, List.set_cons_zero, List.set_cons_succ]
      refine takeH 7 (some 20) (.int .i64 (k : Int)) rfl rfl (by kernel_rfl) (by kernel_rfl) (by kernel_rfl) (fun _ _ _ h => h) (by rfl) hS1 (fun w hSw => by go_split_ands; go_simp <;> first | omega | (rw [IntKind.wrap_i64]; omega) | (intro h; exfalso; omega)) ?_
      simp only [Act.put, List.setIfInBounds_toArray, List.set_cons_zero, List.set_cons_succ]
      refine takeH 8 (some 21) (.bool false) rfl rfl (by kernel_rfl) (by kernel_rfl) (by kernel_rfl) (fun _ _ _ h => h) (by rfl) hS1 (fun w hSw => by go_split_ands; go_simp <;> first | omega | (rw [IntKind.wrap_i64]; omega) | (intro h; exfalso; omega)) ?_
      simp only [Act.put, List.setIfInBounds_toArray, List.set_cons_zero, List.set_cons_succ]
      refine takeH 9 (some 22) (.bool false) rfl rfl (by kernel_rfl) (by kernel_rfl) (by kernel_rfl) (fun _ _ _ h => h) (by rfl) hS1 (fun w hSw => by go_split_ands; go_simp <;> first | omega | (rw [IntKind.wrap_i64]; omega) | (intro h; exfalso; omega)) ?_
      simp only [Act.put, List.setIfInBounds_toArray, List.set_cons_zero, List.set_cons_succ]
      refine skipH 10 (some 23) rfl rfl (by kernel_rfl) (by kernel_rfl) (by kernel_rfl) (fun _ _ _ h => h) (by rfl) hS1 ?_
      simp only [Act.put, List.setIfInBounds_toArray, List.set_cons_zero, List.set_cons_succ]
      refine skipH 11 (some 24) rfl rfl (by kernel_rfl) (by kernel_rfl) (by kernel_rfl) (fun _ _ _ h => h) (by rfl) hS1 ?_
      simp only [Act.put, List.setIfInBounds_toArray, List.set_cons_zero, List.set_cons_succ]
      refine skipH 12 (some 25) rfl rfl (by kernel_rfl) (by kernel_rfl) (by kernel_rfl) (fun _ _ _ h => h) (by rfl) hS1 ?_
      simp only [Act.put, List.setIfInBounds_toArray, List.set_cons_zero, List.set_cons_succ]
      refine skipH 13 (some 26) rfl rfl (by kernel_rfl) (by kernel_rfl) (by kernel_rfl) (fun _ _ _ h => h) (by rfl) hS1 ?_
      simp only [Act.put, List.setIfInBounds_toArray, List.set_cons_zero, List.set_cons_succ]
      refine skipH 14 (some 27) rfl rfl (by kernel_rfl) (by kernel_rfl) (by kernel_rfl) (fun _ _ _ h => h) (by rfl) hS1 ?_
      simp only [Act.put, List.setIfInBounds_toArray, List.set_cons_zero, List.set_cons_succ]
      refine skipH 15 (some 28) rfl rfl (by kernel_rfl) (by kernel_rfl) (by kernel_rfl) (fun _ _ _ h => h) (by rfl) hS1 ?_
      simp only [Act.put, List.setIfInBounds_toArray, List.set_cons_zero, List.set_cons_succ]
      refine skipH 16 (some 29) rfl rfl (by kernel_rfl) (by kernel_rfl) (by kernel_rfl) (fun _ _ _ h => h) (by rfl) hS1 ?_
      simp only [Act.put, List.setIfInBounds_toArray, List.set_cons_zero, List.set_cons_succ]
      refine skipH 17 (some 30) rfl rfl (by kernel_rfl) (by kernel_rfl) (by kernel_rfl) (fun _ _ _ h => h) (by rfl) hS1 ?_
      simp only [Act.put, List.setIfInBounds_toArray, List.set_cons_zero, List.set_cons_succ]
      refine skipH 18 (some 31) rfl rfl (by kernel_rfl) (by kernel_rfl) (by kernel_rfl) (fun _ _ _ h => h) (by rfl) hS1 ?_
      simp only [Act.put, List.setIfInBounds_toArray, List.set_cons_zero, List.set_cons_succ]
      refine skipH 19 (some 32) rfl rfl (by kernel_rfl) (by kernel_rfl) (by kernel_rfl) (fun _ _ _ h => h) (by rfl) hS1 ?_
      simp only [Act.put, List.setIfInBounds_toArray, List.set_cons_zero, List.set_cons_succ]
      refine skipH 20 (some 33) rfl rfl (by kernel_rfl) (by kernel_rfl) (by kernel_rfl) (fun _ _ _ h => h) (by rfl) hS1 ?_
      simp only [Act.put, List.setIfInBounds_toArray, List.set_cons_zero, List.set_cons_succ]
      refine skipH 21 (some 34) rfl rfl (by kernel_rfl) (by kernel_rfl) (by kernel_rfl) (fun _ _ _ h => h) (by rfl) hS1 ?_
      simp only [Act.put, List.setIfInBounds_toArray, List.set_cons_zero, List.set_cons_succ]
      refine takeH 22 (some 35) (.bool false) rfl rfl (by kernel_rfl) (by kernel_rfl) (by kernel_rfl) (fun _ _ _ h => h) (by rfl) hS1 (fun w hSw => by go_split_ands; go_simp <;> first | omega | (rw [IntKind.wrap_i64]; omega) | (intro h; exfalso; omega)) ?_
      simp only [Act.put, List.setIfInBounds_toArray, List.set_cons_zero, List.set_cons_succ]
      refine takeH 23 (some 36) (.bool false) rfl rfl (by kernel_rfl) (by kernel_rfl) (by kernel_rfl) (fun _ _ _ h => h) (by rfl) hS1 (fun w hSw => by go_split_ands; go_simp <;> first | omega | (rw [IntKind.wrap_i64]; omega) | (intro h; exfalso; omega)) ?_
      simp only [Act.put, List.setIfInBounds_toArray, List.set_cons_zero, List.set_cons_succ]
      refine wpAnyH_done (by kernel_rfl) ?_ _
      go_wp2
      go_roundw
      case rel =>
        refine ⟨k + 1, by omega, by go_num, fun j hj => ?_, below_next hbel.drew (Nat.le_refl _) hb1⟩
        by_cases e : j = k
        · subst e; exact hyes'
        · exact hat j (by omega)
      case measure => simp [intOf]; omega
    have hk3 : (0 : Int) < (k : Int) := by omega
    have hk4 : (0 : Int) ≤ (k : Int) - 1 := by omega
    have hk5 : (k : Int) - 1 < (n : Int) := by omega
    have hk6 : ((k : Int) - 1).toNat = k - 1 := by omega
    obtain ⟨b', o', hao', d0, d1⟩ := (hr.below hbel (Nat.le_refl _)) (k - 1) (by omega)
    simp only [Option.some.injEq, Addr.mk.injEq, and_true] at hao'
    obtain ⟨rfl, rfl⟩ := hao'
    by_cases hT : T k < T (k - 1)
    · have hno : logAt T X k = false := logAt_not (fun h => by omega)
      go_wp2_with fail
      have hS : (fun w' => w'.cell? ⟨b, o + k * 2, none⟩ = some (.int .i64 (T k)) ∧ w'.cell? ⟨b, o + k * 2 + 1, none⟩ = some (.string (X k)) ∧ w'.cell? ⟨b, o + (k - 1) * 2, none⟩ = some (.int .i64 (T (k - 1)))) wr.drew := ⟨c0, c1, d0⟩
      refine wp_region_held_drew (S := fun w' => w'.cell? ⟨b, o + k * 2, none⟩ = some (.int .i64 (T k)) ∧ w'.cell? ⟨b, o + k * 2 + 1, none⟩ = some (.string (X k)) ∧ w'.cell? ⟨b, o + (k - 1) * 2, none⟩ = some (.int .i64 (T (k - 1)))) (by kernel_rfl) hS (fun hS => ?_)
      refine takeH 0 (some 13) (.slice (some ⟨b, o, none⟩) n cap) rfl rfl (by kernel_rfl) (by kernel_rfl) (by kernel_rfl) (fun _ _ _ h => h) (by rfl) hS (fun w hSw => by go_split_ands; go_simp <;> first | omega | (rw [IntKind.wrap_i64]; omega) | (intro h; exfalso; omega)) ?_
      simp only [Act.put, List.setIfInBounds_toArray, List.set_cons_zero, List.set_cons_succ]
      refine takeH 1 (some 14) (.int .i64 (k : Int)) rfl rfl (by kernel_rfl) (by kernel_rfl) (by kernel_rfl) (fun _ _ _ h => h) (by rfl) hS (fun w hSw => by go_split_ands; go_simp <;> first | omega | (rw [IntKind.wrap_i64]; omega) | (intro h; exfalso; omega)) ?_
      simp only [Act.put, List.setIfInBounds_toArray, List.set_cons_zero, List.set_cons_succ]
      refine takeH 2 (some 15) (.pointer (some ⟨b, o + k * 2, none⟩)) rfl rfl (by kernel_rfl) (by kernel_rfl) (by kernel_rfl) (fun _ _ _ h => h) (by rfl) hS (fun w hSw => by go_split_ands; go_simp <;> first | omega | (rw [IntKind.wrap_i64]; omega) | (intro h; exfalso; omega)) ?_
      simp only [Act.put, List.setIfInBounds_toArray, List.set_cons_zero, List.set_cons_succ]
      refine takeH 3 (some 16) (.agg #[.int .i64 (T k), .string (X k)]) rfl rfl (by kernel_rfl) (by kernel_rfl) (by kernel_rfl) (fun _ _ _ h => h) (by rfl) hS (fun w hSw => by go_split_ands; go_simp <;> first | omega | (rw [IntKind.wrap_i64]; omega) | (intro h; exfalso; omega)) ?_
      simp only [Act.put, List.setIfInBounds_toArray, List.set_cons_zero, List.set_cons_succ]
      refine step1H 4 _ rfl (by kernel_rfl) (by rfl) ?_
      go_simp
      refine (HE _).mono ?_
      rintro e w1 ⟨rfl, hb1⟩
      have hS1 : (fun w' => w'.cell? ⟨b, o + k * 2, none⟩ = some (.int .i64 (T k)) ∧ w'.cell? ⟨b, o + k * 2 + 1, none⟩ = some (.string (X k)) ∧ w'.cell? ⟨b, o + (k - 1) * 2, none⟩ = some (.int .i64 (T (k - 1)))) w1 := ⟨keep_cell hb1 (Nat.le_refl _) hS.1, keep_cell hb1 (Nat.le_refl _) hS.2.1, keep_cell hb1 (Nat.le_refl _) hS.2.2⟩
      refine ⟨hS1, ?_⟩
      refine takeH 5 (some 18) (.bool false) rfl rfl (by kernel_rfl) (by kernel_rfl) (by kernel_rfl) (fun _ _ _ h => h) (by rfl) hS1 (fun w hSw => by go_split_ands; go_simp <;> first | omega | (rw [IntKind.wrap_i64]; omega) | (intro h; exfalso; omega)) ?_
      simp only [Act.put, List.setIfInBounds_toArray, List.set_cons_zero, List.set_cons_succ]
      refine takeH 6 (some 19) (.bool false) rfl rfl (by kernel_rfl) (by kernel_rfl) (by kernel_rfl) (fun _ _ _ h => h) (by rfl) hS1 (fun w hSw => by go_split_ands; go_simp <;> first | omega | (rw [IntKind.wrap_i64]; omega) | (intro h; exfalso; omega)) ?_
      simp only [Act.put, List.setIfInBounds_toArray, List.set_cons_zero, List.set_cons_succ]
      refine takeH 7 (some 20) (.int .i64 (k : Int)) rfl rfl (by kernel_rfl) (by kernel_rfl) (by kernel_rfl) (fun _ _ _ h => h) (by rfl) hS1 (fun w hSw => by go_split_ands; go_simp <;> first | omega | (rw [IntKind.wrap_i64]; omega) | (intro h; exfalso; omega)) ?_
      simp only [Act.put, List.setIfInBounds_toArray, List.set_cons_zero, List.set_cons_succ]
      refine takeH 8 (some 21) (.bool true) rfl rfl (by kernel_rfl) (by kernel_rfl) (by kernel_rfl) (fun _ _ _ h => h) (by rfl) hS1 (fun w hSw => by go_split_ands; go_simp <;> first | omega | (rw [IntKind.wrap_i64]; omega) | (intro h; exfalso; omega)) ?_
      simp only [Act.put, List.setIfInBounds_toArray, List.set_cons_zero, List.set_cons_succ]
      refine takeH 9 (some 22) (.bool true) rfl rfl (by kernel_rfl) (by kernel_rfl) (by kernel_rfl) (fun _ _ _ h => h) (by rfl) hS1 (fun w hSw => by go_split_ands; go_simp <;> first | omega | (rw [IntKind.wrap_i64]; omega) | (intro h; exfalso; omega)) ?_
      simp only [Act.put, List.setIfInBounds_toArray, List.set_cons_zero, List.set_cons_succ]
      refine takeH 10 (some 23) (.slice (some ⟨b, o, none⟩) n cap) rfl rfl (by kernel_rfl) (by kernel_rfl) (by kernel_rfl) (fun _ _ _ h => h) (by rfl) hS1 (fun w hSw => by go_split_ands; go_simp <;> first | omega | (rw [IntKind.wrap_i64]; omega) | (intro h; exfalso; omega)) ?_
      simp only [Act.put, List.setIfInBounds_toArray, List.set_cons_zero, List.set_cons_succ]
      refine takeH 11 (some 24) (.int .i64 (k : Int)) rfl rfl (by kernel_rfl) (by kernel_rfl) (by kernel_rfl) (fun _ _ _ h => h) (by rfl) hS1 (fun w hSw => by go_split_ands; go_simp <;> first | omega | (rw [IntKind.wrap_i64]; omega) | (intro h; exfalso; omega)) ?_
      simp only [Act.put, List.setIfInBounds_toArray, List.set_cons_zero, List.set_cons_succ]
      refine takeH 12 (some 25) (.pointer (some ⟨b, o + k * 2, none⟩)) rfl rfl (by kernel_rfl) (by kernel_rfl) (by kernel_rfl) (fun _ _ _ h => h) (by rfl) hS1 (fun w hSw => by go_split_ands; go_simp <;> first | omega | (rw [IntKind.wrap_i64]; omega) | (intro h; exfalso; omega)) ?_
      simp only [Act.put, List.setIfInBounds_toArray, List.set_cons_zero, List.set_cons_succ]
      refine takeH 13 (some 26) (.pointer (some ⟨b, o + k * 2, none⟩)) rfl rfl (by kernel_rfl) (by kernel_rfl) (by kernel_rfl) (fun _ _ _ h => h) (by rfl) hS1 (fun w hSw => by go_split_ands; go_simp <;> first | omega | (rw [IntKind.wrap_i64]; omega) | (intro h; exfalso; omega)) ?_
      simp only [Act.put, List.setIfInBounds_toArray, List.set_cons_zero, List.set_cons_succ]
      refine takeH 14 (some 27) (.int .i64 (T k)) rfl rfl (by kernel_rfl) (by kernel_rfl) (by kernel_rfl) (fun _ _ _ h => h) (by rfl) hS1 (fun w hSw => by go_split_ands; go_simp <;> first | omega | (rw [IntKind.wrap_i64]; omega) | (intro h; exfalso; omega)) ?_
      simp only [Act.put, List.setIfInBounds_toArray, List.set_cons_zero, List.set_cons_succ]
      refine takeH 15 (some 28) (.slice (some ⟨b, o, none⟩) n cap) rfl rfl (by kernel_rfl) (by kernel_rfl) (by kernel_rfl) (fun _ _ _ h => h) (by rfl) hS1 (fun w hSw => by go_split_ands; go_simp <;> first | omega | (rw [IntKind.wrap_i64]; omega) | (intro h; exfalso; omega)) ?_
      simp only [Act.put, List.setIfInBounds_toArray, List.set_cons_zero, List.set_cons_succ]
      refine takeH 16 (some 29) (.int .i64 (k : Int)) rfl rfl (by kernel_rfl) (by kernel_rfl) (by kernel_rfl) (fun _ _ _ h => h) (by rfl) hS1 (fun w hSw => by go_split_ands; go_simp <;> first | omega | (rw [IntKind.wrap_i64]; omega) | (intro h; exfalso; omega)) ?_
      simp only [Act.put, List.setIfInBounds_toArray, List.set_cons_zero, List.set_cons_succ]
      refine takeH 17 (some 30) (.int .i64 ((k : Int) - 1)) rfl rfl (by kernel_rfl) (by kernel_rfl) (by kernel_rfl) (fun _ _ _ h => h) (by rfl) hS1 (fun w hSw => by go_split_ands; go_simp <;> first | omega | (rw [IntKind.wrap_i64]; omega) | (intro h; exfalso; omega)) ?_
      simp only [Act.put, List.setIfInBounds_toArray, List.set_cons_zero, List.set_cons_succ]
      refine takeH 18 (some 31) (.pointer (some ⟨b, o + (k - 1) * 2, none⟩)) rfl rfl (by kernel_rfl) (by kernel_rfl) (by kernel_rfl) (fun _ _ _ h => h) (by rfl) hS1 (fun w hSw => by go_split_ands; go_simp <;> first | omega | (rw [IntKind.wrap_i64]; omega) | (intro h; exfalso; omega)) ?_
      simp only [Act.put, List.setIfInBounds_toArray, List.set_cons_zero, List.set_cons_succ]
      refine takeH 19 (some 32) (.pointer (some ⟨b, o + (k - 1) * 2, none⟩)) rfl rfl (by kernel_rfl) (by kernel_rfl) (by kernel_rfl) (fun _ _ _ h => h) (by rfl) hS1 (fun w hSw => by go_split_ands; go_simp <;> first | omega | (rw [IntKind.wrap_i64]; omega) | (intro h; exfalso; omega)) ?_
      simp only [Act.put, List.setIfInBounds_toArray, List.set_cons_zero, List.set_cons_succ]
      refine takeH 20 (some 33) (.int .i64 (T (k - 1))) rfl rfl (by kernel_rfl) (by kernel_rfl) (by kernel_rfl) (fun _ _ _ h => h) (by rfl) hS1 (fun w hSw => by go_split_ands; go_simp <;> first | omega | (rw [IntKind.wrap_i64]; omega) | (intro h; exfalso; omega)) ?_
      simp only [Act.put, List.setIfInBounds_toArray, List.set_cons_zero, List.set_cons_succ]
      refine takeH 21 (some 34) (.bool true) rfl rfl (by kernel_rfl) (by kernel_rfl) (by kernel_rfl) (fun _ _ _ h => h) (by rfl) hS1 (fun w hSw => by go_split_ands; go_simp <;> first | omega | (rw [IntKind.wrap_i64]; omega) | (intro h; exfalso; omega)) ?_
      simp only [Act.put, List.setIfInBounds_toArray, List.set_cons_zero, List.set_cons_succ]
      refine takeH 22 (some 35) (.bool true) rfl rfl (by kernel_rfl) (by kernel_rfl) (by kernel_rfl) (fun _ _ _ h => h) (by rfl) hS1 (fun w hSw => by go_split_ands; go_simp <;> first | omega | (rw [IntKind.wrap_i64]; omega) | (intro h; exfalso; omega)) ?_
      simp only [Act.put, List.setIfInBounds_toArray, List.set_cons_zero, List.set_cons_succ]
      refine takeH 23 (some 36) (.bool true) rfl rfl (by kernel_rfl) (by kernel_rfl) (by kernel_rfl) (fun _ _ _ h => h) (by rfl) hS1 (fun w hSw => by go_split_ands; go_simp <;> first | omega | (rw [IntKind.wrap_i64]; omega) | (intro h; exfalso; omega)) ?_
      simp only [Act.put, List.setIfInBounds_toArray, List.set_cons_zero, List.set_cons_succ]
      refine wpAnyH_done (by kernel_rfl) ?_ _
      go_wp2
      go_ret
      exact ⟨by rw [HN.out k hlt hno]; rfl, below_next hbel.drew (Nat.le_refl _) hb1⟩
    · have hyes' : logAt T X k = true := logAt_mk hyes.1 hyes.2.1 hyes.2.2 (Or.inr (by omega))
      go_wp2_with fail
      have hS : (fun w' => w'.cell? ⟨b, o + k * 2, none⟩ = some (.int .i64 (T k)) ∧ w'.cell? ⟨b, o + k * 2 + 1, none⟩ = some (.string (X k)) ∧ w'.cell? ⟨b, o + (k - 1) * 2, none⟩ = some (.int .i64 (T (k - 1)))) wr.drew := ⟨c0, c1, d0⟩
      refine wp_region_held_drew (S := fun w' => w'.cell? ⟨b, o + k * 2, none⟩ = some (.int .i64 (T k)) ∧ w'.cell? ⟨b, o + k * 2 + 1, none⟩ = some (.string (X k)) ∧ w'.cell? ⟨b, o + (k - 1) * 2, none⟩ = some (.int .i64 (T (k - 1)))) (by kernel_rfl) hS (fun hS => ?_)
      refine takeH 0 (some 13) (.slice (some ⟨b, o, none⟩) n cap) rfl rfl (by kernel_rfl) (by kernel_rfl) (by kernel_rfl) (fun _ _ _ h => h) (by rfl) hS (fun w hSw => by go_split_ands; go_simp <;> first | omega | (rw [IntKind.wrap_i64]; omega) | (intro h; exfalso; omega)) ?_
      simp only [Act.put, List.setIfInBounds_toArray, List.set_cons_zero, List.set_cons_succ]
      refine takeH 1 (some 14) (.int .i64 (k : Int)) rfl rfl (by kernel_rfl) (by kernel_rfl) (by kernel_rfl) (fun _ _ _ h => h) (by rfl) hS (fun w hSw => by go_split_ands; go_simp <;> first | omega | (rw [IntKind.wrap_i64]; omega) | (intro h; exfalso; omega)) ?_
      simp only [Act.put, List.setIfInBounds_toArray, List.set_cons_zero, List.set_cons_succ]
      refine takeH 2 (some 15) (.pointer (some ⟨b, o + k * 2, none⟩)) rfl rfl (by kernel_rfl) (by kernel_rfl) (by kernel_rfl) (fun _ _ _ h => h) (by rfl) hS (fun w hSw => by go_split_ands; go_simp <;> first | omega | (rw [IntKind.wrap_i64]; omega) | (intro h; exfalso; omega)) ?_
      simp only [Act.put, List.setIfInBounds_toArray, List.set_cons_zero, List.set_cons_succ]
      refine takeH 3 (some 16) (.agg #[.int .i64 (T k), .string (X k)]) rfl rfl (by kernel_rfl) (by kernel_rfl) (by kernel_rfl) (fun _ _ _ h => h) (by rfl) hS (fun w hSw => by go_split_ands; go_simp <;> first | omega | (rw [IntKind.wrap_i64]; omega) | (intro h; exfalso; omega)) ?_
      simp only [Act.put, List.setIfInBounds_toArray, List.set_cons_zero, List.set_cons_succ]
      refine step1H 4 _ rfl (by kernel_rfl) (by rfl) ?_
      go_simp
      refine (HE _).mono ?_
      rintro e w1 ⟨rfl, hb1⟩
      have hS1 : (fun w' => w'.cell? ⟨b, o + k * 2, none⟩ = some (.int .i64 (T k)) ∧ w'.cell? ⟨b, o + k * 2 + 1, none⟩ = some (.string (X k)) ∧ w'.cell? ⟨b, o + (k - 1) * 2, none⟩ = some (.int .i64 (T (k - 1)))) w1 := ⟨keep_cell hb1 (Nat.le_refl _) hS.1, keep_cell hb1 (Nat.le_refl _) hS.2.1, keep_cell hb1 (Nat.le_refl _) hS.2.2⟩
      refine ⟨hS1, ?_⟩
      refine takeH 5 (some 18) (.bool false) rfl rfl (by kernel_rfl) (by kernel_rfl) (by kernel_rfl) (fun _ _ _ h => h) (by rfl) hS1 (fun w hSw => by go_split_ands; go_simp <;> first | omega | (rw [IntKind.wrap_i64]; omega) | (intro h; exfalso; omega)) ?_
      simp only [Act.put, List.setIfInBounds_toArray, List.set_cons_zero, List.set_cons_succ]
      refine takeH 6 (some 19) (.bool false) rfl rfl (by kernel_rfl) (by kernel_rfl) (by kernel_rfl) (fun _ _ _ h => h) (by rfl) hS1 (fun w hSw => by go_split_ands; go_simp <;> first | omega | (rw [IntKind.wrap_i64]; omega) | (intro h; exfalso; omega)) ?_
      simp only [Act.put, List.setIfInBounds_toArray, List.set_cons_zero, List.set_cons_succ]
      refine takeH 7 (some 20) (.int .i64 (k : Int)) rfl rfl (by kernel_rfl) (by kernel_rfl) (by kernel_rfl) (fun _ _ _ h => h) (by rfl) hS1 (fun w hSw => by go_split_ands; go_simp <;> first | omega | (rw [IntKind.wrap_i64]; omega) | (intro h; exfalso; omega)) ?_
      simp only [Act.put, List.setIfInBounds_toArray, List.set_cons_zero, List.set_cons_succ]
      refine takeH 8 (some 21) (.bool true) rfl rfl (by kernel_rfl) (by kernel_rfl) (by kernel_rfl) (fun _ _ _ h => h) (by rfl) hS1 (fun w hSw => by go_split_ands; go_simp <;> first | omega | (rw [IntKind.wrap_i64]; omega) | (intro h; exfalso; omega)) ?_
      simp only [Act.put, List.setIfInBounds_toArray, List.set_cons_zero, List.set_cons_succ]
      refine takeH 9 (some 22) (.bool true) rfl rfl (by kernel_rfl) (by kernel_rfl) (by kernel_rfl) (fun _ _ _ h => h) (by rfl) hS1 (fun w hSw => by go_split_ands; go_simp <;> first | omega | (rw [IntKind.wrap_i64]; omega) | (intro h; exfalso; omega)) ?_
      simp only [Act.put, List.setIfInBounds_toArray, List.set_cons_zero, List.set_cons_succ]
      refine takeH 10 (some 23) (.slice (some ⟨b, o, none⟩) n cap) rfl rfl (by kernel_rfl) (by kernel_rfl) (by kernel_rfl) (fun _ _ _ h => h) (by rfl) hS1 (fun w hSw => by go_split_ands; go_simp <;> first | omega | (rw [IntKind.wrap_i64]; omega) | (intro h; exfalso; omega)) ?_
      simp only [Act.put, List.setIfInBounds_toArray, List.set_cons_zero, List.set_cons_succ]
      refine takeH 11 (some 24) (.int .i64 (k : Int)) rfl rfl (by kernel_rfl) (by kernel_rfl) (by kernel_rfl) (fun _ _ _ h => h) (by rfl) hS1 (fun w hSw => by go_split_ands; go_simp <;> first | omega | (rw [IntKind.wrap_i64]; omega) | (intro h; exfalso; omega)) ?_
      simp only [Act.put, List.setIfInBounds_toArray, List.set_cons_zero, List.set_cons_succ]
      refine takeH 12 (some 25) (.pointer (some ⟨b, o + k * 2, none⟩)) rfl rfl (by kernel_rfl) (by kernel_rfl) (by kernel_rfl) (fun _ _ _ h => h) (by rfl) hS1 (fun w hSw => by go_split_ands; go_simp <;> first | omega | (rw [IntKind.wrap_i64]; omega) | (intro h; exfalso; omega)) ?_
      simp only [Act.put, List.setIfInBounds_toArray, List.set_cons_zero, List.set_cons_succ]
      refine takeH 13 (some 26) (.pointer (some ⟨b, o + k * 2, none⟩)) rfl rfl (by kernel_rfl) (by kernel_rfl) (by kernel_rfl) (fun _ _ _ h => h) (by rfl) hS1 (fun w hSw => by go_split_ands; go_simp <;> first | omega | (rw [IntKind.wrap_i64]; omega) | (intro h; exfalso; omega)) ?_
      simp only [Act.put, List.setIfInBounds_toArray, List.set_cons_zero, List.set_cons_succ]
      refine takeH 14 (some 27) (.int .i64 (T k)) rfl rfl (by kernel_rfl) (by kernel_rfl) (by kernel_rfl) (fun _ _ _ h => h) (by rfl) hS1 (fun w hSw => by go_split_ands; go_simp <;> first | omega | (rw [IntKind.wrap_i64]; omega) | (intro h; exfalso; omega)) ?_
      simp only [Act.put, List.setIfInBounds_toArray, List.set_cons_zero, List.set_cons_succ]
      refine takeH 15 (some 28) (.slice (some ⟨b, o, none⟩) n cap) rfl rfl (by kernel_rfl) (by kernel_rfl) (by kernel_rfl) (fun _ _ _ h => h) (by rfl) hS1 (fun w hSw => by go_split_ands; go_simp <;> first | omega | (rw [IntKind.wrap_i64]; omega) | (intro h; exfalso; omega)) ?_
      simp only [Act.put, List.setIfInBounds_toArray, List.set_cons_zero, List.set_cons_succ]
      refine takeH 16 (some 29) (.int .i64 (k : Int)) rfl rfl (by kernel_rfl) (by kernel_rfl) (by kernel_rfl) (fun _ _ _ h => h) (by rfl) hS1 (fun w hSw => by go_split_ands; go_simp <;> first | omega | (rw [IntKind.wrap_i64]; omega) | (intro h; exfalso; omega)) ?_
      simp only [Act.put, List.setIfInBounds_toArray, List.set_cons_zero, List.set_cons_succ]
      refine takeH 17 (some 30) (.int .i64 ((k : Int) - 1)) rfl rfl (by kernel_rfl) (by kernel_rfl) (by kernel_rfl) (fun _ _ _ h => h) (by rfl) hS1 (fun w hSw => by go_split_ands; go_simp <;> first | omega | (rw [IntKind.wrap_i64]; omega) | (intro h; exfalso; omega)) ?_
      simp only [Act.put, List.setIfInBounds_toArray, List.set_cons_zero, List.set_cons_succ]
      refine takeH 18 (some 31) (.pointer (some ⟨b, o + (k - 1) * 2, none⟩)) rfl rfl (by kernel_rfl) (by kernel_rfl) (by kernel_rfl) (fun _ _ _ h => h) (by rfl) hS1 (fun w hSw => by go_split_ands; go_simp <;> first | omega | (rw [IntKind.wrap_i64]; omega) | (intro h; exfalso; omega)) ?_
      simp only [Act.put, List.setIfInBounds_toArray, List.set_cons_zero, List.set_cons_succ]
      refine takeH 19 (some 32) (.pointer (some ⟨b, o + (k - 1) * 2, none⟩)) rfl rfl (by kernel_rfl) (by kernel_rfl) (by kernel_rfl) (fun _ _ _ h => h) (by rfl) hS1 (fun w hSw => by go_split_ands; go_simp <;> first | omega | (rw [IntKind.wrap_i64]; omega) | (intro h; exfalso; omega)) ?_
      simp only [Act.put, List.setIfInBounds_toArray, List.set_cons_zero, List.set_cons_succ]
      refine takeH 20 (some 33) (.int .i64 (T (k - 1))) rfl rfl (by kernel_rfl) (by kernel_rfl) (by kernel_rfl) (fun _ _ _ h => h) (by rfl) hS1 (fun w hSw => by go_split_ands; go_simp <;> first | omega | (rw [IntKind.wrap_i64]; omega) | (intro h; exfalso; omega)) ?_
      simp only [Act.put, List.setIfInBounds_toArray, List.set_cons_zero, List.set_cons_succ]
      refine takeH 21 (some 34) (.bool false) rfl rfl (by kernel_rfl) (by kernel_rfl) (by kernel_rfl) (fun _ _ _ h => h) (by rfl) hS1 (fun w hSw => by go_split_ands; go_simp <;> first | omega | (rw [IntKind.wrap_i64]; omega) | (intro h; exfalso; omega)) ?_
      simp only [Act.put, List.setIfInBounds_toArray, List.set_cons_zero, List.set_cons_succ]
      refine takeH 22 (some 35) (.bool false) rfl rfl (by kernel_rfl) (by kernel_rfl) (by kernel_rfl) (fun _ _ _ h => h) (by rfl) hS1 (fun w hSw => by go_split_ands; go_simp <;> first | omega | (rw [IntKind.wrap_i64]; omega) | (intro h; exfalso; omega)) ?_
      simp only [Act.put, List.setIfInBounds_toArray, List.set_cons_zero, List.set_cons_succ]
      refine takeH 23 (some 36) (.bool false) rfl rfl (by kernel_rfl) (by kernel_rfl) (by kernel_rfl) (fun _ _ _ h => h) (by rfl) hS1 (fun w hSw => by go_split_ands; go_simp <;> first | omega | (rw [IntKind.wrap_i64]; omega) | (intro h; exfalso; omega)) ?_
      simp only [Act.put, List.setIfInBounds_toArray, List.set_cons_zero, List.set_cons_succ]
      refine wpAnyH_done (by kernel_rfl) ?_ _
      go_wp2
      go_roundw
      case rel =>
        refine ⟨k + 1, by omega, by go_num, fun j hj => ?_, below_next hbel.drew (Nat.le_refl _) hb1⟩
        by_cases e : j = k
        · subst e; exact hyes'
        · exact hat j (by omega)
      case measure => simp [intOf]; omega


theorem faultOfLog_any (ao : Option Addr) (n cap : Nat) (T : Nat → Int) (X : Nat → ByteArray) (a : Addr) (hn : n ≤ 9223372036854775807) (hX : ∀ k, k < n → (X k).size ≤ 1048576) (w : World) (hr : NRow w ao n T X)
    (hV : w.cell? ⟨1, 0, none⟩ = some (.iface 125 (.pointer (some a)))) :
    Calls Tryd.prog 22 #[.slice ao n cap] w fun e w' => (logB n T X = true ∧ e = .returned .nilIface ∨ logB n T X = false ∧ ∃ m, e = .returned (mis m a)) ∧ Below w.heap.size w w' := by
  by_cases h200 : 200 < n
  · have h2' : (200 : Int) < (n : Int) := by omega
    go_enter Tryd.func22, Tryd.ntmps22
    go_wp2
    go_ret
    exact ⟨Or.inr ⟨logB_long h200, _, rfl⟩, Below.refl _ _⟩
  have h2' : ¬ (200 : Int) < (n : Int) := by omega
  have HB : Hid ((∀ k, k < n → logAt T X k = true) → logB n T X = true) := fun h => logB_true (by omega) h
  have HN : Hid (∀ k, k < n → logAt T X k = false → logB n T X = false) := fun k h1 h2 => logB_bad h1 h2
  generalize logB n T X = B at HB HN ⊢
  go_enter Tryd.func22, Tryd.ntmps22
  go_wp2
  go_loopw [3, 16] (fun l i wr => ∃ k : Nat, k ≤ n ∧ i = .int .i64 k ∧ l = .int .i64 (if k = 0 then 1 else T (k - 1)) ∧ (∀ j, j < k → logAt T X j = true) ∧ Below w.heap.size w wr) (fun _ i _ => n - (intOf i).toNat)
  case atStart => exact ⟨0, Nat.zero_le _, rfl, rfl, fun j hj => by omega, Below.refl _ _⟩
  case round =>
    obtain ⟨k, hk, rfl, rfl, hat, hbel⟩ := hrel
    by_cases hlt : k < n
    rotate_left
    · have hkn : k = n := by omega
      subst hkn
      generalize (if k = 0 then (1 : Int) else T (k - 1)) = l
      go_wp2
      go_ret
      exact ⟨Or.inl ⟨HB.out hat, rfl⟩, hbel⟩
    obtain ⟨b, o, hao, c0, c1⟩ := (hr.below hbel (Nat.le_refl _)) k hlt
    subst hao
    have hk1 : (0 : Int) ≤ (k : Int) := by omega
    have hk2 : (k : Int) < (n : Int) := by omega
    have hR := fun W => implRead_same (X k) (hX k hlt) W
    obtain ⟨R, hRe⟩ : ∃ R, onlyOk (rdS (X k).data.toList) = R := ⟨_, rfl⟩
    rw [hRe] at hR
    have hiC : isC (X k) = R.isSome := by unfold isC; rw [hRe]
    have HR : Hid (∀ W, Calls Tryd.prog 31 #[.string (X k)] W fun e w' => CAns W w' e R) := hR
    clear hR hRe
    have hg0 : wr.cell? ⟨1, 0, none⟩ = some (.iface 125 (.pointer (some a))) := by rw [hbel.cell (lt_of_cell hV)]; exact hV
    obtain ⟨l, hl⟩ : ∃ l, (if k = 0 then 1 else T (k - 1)) = l := ⟨_, rfl⟩
    have hl2 : ∀ t, (1 ≤ t ∧ (k = 0 ∨ T (k - 1) ≤ t)) ↔ l ≤ t := by
      intro t
      subst hl
      by_cases h0 : k = 0
      · simp [h0]
      · have := (logAt_out (hat (k - 1) (by omega))).2.1
        simp only [h0, if_false, false_or]
        omega
    rw [hl]
    clear hl
    go_wp2_with fail
    refine (HR.out _).mono ?_
    rintro e w1 ⟨ao', cap', rfl, _, hb1⟩
    have hA : Below w.heap.size w w1 := (hbel.alloc hbel.size _).trans (hb1.mono (by have := hbel.size; simp; omega))
    have c0' : w1.cell? ⟨wr.heap.size, 0, none⟩ = some (.int .i64 (T k)) := by rw [hb1.cell (by simp)]; simp [go_sem]
    have g0' : w1.cell? ⟨1, 0, none⟩ = some (.iface 125 (.pointer (some a))) := by rw [hA.cell (lt_of_cell hV)]; exact hV
    have hA2 := fun o => hA.alloc hA.size o
    have d0 : ∀ o, (w1.alloc o).cell? ⟨wr.heap.size, 0, none⟩ = some (.int .i64 (T k)) := fun o => by rw [((Below.refl w1.heap.size w1).alloc (Nat.le_refl _) o).cell (lt_of_cell c0')]; exact c0'
    have g0 : ∀ o, (w1.alloc o).cell? ⟨1, 0, none⟩ = some (.iface 125 (.pointer (some a))) := fun o => by rw [((Below.refl w1.heap.size w1).alloc (Nat.le_refl _) o).cell (lt_of_cell g0')]; exact g0'
    clear c0' g0' hb1 c0 c1 hg0
    cases hq : R.isSome
    · have hno : logAt T X k = false := logAt_not (fun h => by rw [hiC, hq] at h; exact absurd h.1 (by simp))
      go_wp2
      go_ret
      exact ⟨Or.inr ⟨HN.out k hlt hno, _, rfl⟩, hA2 _⟩
    by_cases h3 : T k < l
    · have hno : logAt T X k = false := logAt_not (fun h => by have := (hl2 (T k)).1 ⟨h.2.1, h.2.2.2⟩; omega)
      go_wp2
      go_ret
      exact ⟨Or.inr ⟨HN.out k hlt hno, _, rfl⟩, hA2 _⟩
    by_cases h4 : (100000 : Int) < T k
    · have hno : logAt T X k = false := logAt_not (fun h => by omega)
      go_wp2
      go_ret
      exact ⟨Or.inr ⟨HN.out k hlt hno, _, rfl⟩, hA2 _⟩
    have hyes : logAt T X k = true := by
      have := (hl2 (T k)).2 (by omega)
      exact logAt_mk (by rw [hiC, hq]) this.1 (by omega) this.2
    go_wp2
    go_roundw
    case rel =>
      refine ⟨k + 1, by omega, by go_num, by simp, fun j hj => ?_, hA2 _⟩
      by_cases e : j = k
      · subst e; exact hyes
      · exact hat j (by omega)
    case measure => simp [intOf]; omega

theorem implLogOk_any (ao : Option Addr) (n cap : Nat) (T : Nat → Int) (X : Nat → ByteArray) (a : Addr) (hn : n ≤ 9223372036854775807) (hX : ∀ k, k < n → (X k).size ≤ 1048576) (w : World) (hr : NRow w ao n T X)
    (hV : w.cell? ⟨1, 0, none⟩ = some (.iface 125 (.pointer (some a)))) :
    Calls Tryd.prog 15 #[.slice ao n cap] w fun e w' => e = .returned (.bool (logB n T X)) ∧ Below w.heap.size w w' := by
  have HF : Hid (∀ W, NRow W ao n T X → W.cell? ⟨1, 0, none⟩ = some (.iface 125 (.pointer (some a))) → Calls Tryd.prog 22 #[.slice ao n cap] W fun e w' => (logB n T X = true ∧ e = .returned .nilIface ∨ logB n T X = false ∧ ∃ m, e = .returned (mis m a)) ∧ Below W.heap.size W w') := fun W h1 h2 => faultOfLog_any ao n cap T X a hn hX W h1 h2
  generalize logB n T X = B at HF ⊢
  go_enter Tryd.func15, Tryd.ntmps15
  go_wp2_with fail
  have hS : (fun w' : World => w'.cell? ⟨1, 0, none⟩ = some (.iface 125 (.pointer (some a)))) w.drew := hV
  refine wp_region_held_drew (S := fun w' => w'.cell? ⟨1, 0, none⟩ = some (.iface 125 (.pointer (some a)))) (by kernel_rfl) hS (fun hS => ?_)
  refine takeH 0 (some 3) (.slice ao n cap) rfl rfl (by kernel_rfl) (by kernel_rfl) (by kernel_rfl) (fun _ _ _ h => h) (by rfl) hS (fun w hSw => by go_simp) ?_
  simp only [Act.put, List.setIfInBounds_toArray, List.set_cons_zero, List.set_cons_succ]
  refine takeH 2 (some 5) (.iface 125 (.pointer (some a))) rfl rfl (by kernel_rfl) (by kernel_rfl) (by kernel_rfl) (fun _ _ _ h => h) (by rfl) hS (fun w hSw => by have hSw' : w.cell? ⟨1, 0, none⟩ = some (.iface 125 (.pointer (some a))) := hSw; go_simp) ?_
  simp only [Act.put, List.setIfInBounds_toArray, List.set_cons_zero, List.set_cons_succ]
  refine step1H 1 _ rfl (by kernel_rfl) (by rfl) ?_
  go_simp
  refine (HF.out _ (hr.below (Below.refl w.heap.size w).drew (Nat.le_refl _)) hV).mono ?_
  rintro e w1 ⟨hE, hb1⟩
  have hS1 : w1.cell? ⟨1, 0, none⟩ = some (.iface 125 (.pointer (some a))) := keep_cell hb1 (Nat.le_refl _) hS
  have hA := below_next (Below.refl w.heap.size w).drew (Nat.le_refl _) hb1
  rcases hE with ⟨rfl, rfl⟩ | ⟨rfl, m, rfl⟩
  · refine ⟨hS1, ?_⟩
    refine step1H 3 _ rfl (by kernel_rfl) (by rfl) ?_
    go_simp
    refine (is_nil a _).mono ?_
    rintro e w2 ⟨rfl, rfl⟩
    refine ⟨hS1, ?_⟩
    refine takeH 4 (some 7) (.bool true) rfl rfl (by kernel_rfl) (by kernel_rfl) (by kernel_rfl) (fun _ _ _ h => h) (by rfl) hS1 (fun w hSw => by go_simp) ?_
    simp only [Act.put, List.setIfInBounds_toArray, List.set_cons_zero, List.set_cons_succ]
    refine takeH 5 (some 2) (.bool true) rfl rfl (by kernel_rfl) (by kernel_rfl) (by kernel_rfl) (fun _ _ _ h => h) (by rfl) hS1 (fun w hSw => by go_simp) ?_
    simp only [Act.put, List.setIfInBounds_toArray, List.set_cons_zero, List.set_cons_succ]
    refine wpAnyH_done (by kernel_rfl) ?_ _
    go_wp2
    go_ret
    exact ⟨rfl, hA⟩
  · refine ⟨hS1, ?_⟩
    refine step1H 3 _ rfl (by kernel_rfl) (by rfl) ?_
    go_simp
    refine (is_mis m a _).mono ?_
    rintro e w2 ⟨rfl, hb2⟩
    have hS2 : w2.cell? ⟨1, 0, none⟩ = some (.iface 125 (.pointer (some a))) := keep_cell hb2 (Nat.le_refl _) hS1
    refine ⟨hS2, ?_⟩
    refine takeH 4 (some 7) (.bool false) rfl rfl (by kernel_rfl) (by kernel_rfl) (by kernel_rfl) (fun _ _ _ h => h) (by rfl) hS2 (fun w hSw => by go_simp) ?_
    simp only [Act.put, List.setIfInBounds_toArray, List.set_cons_zero, List.set_cons_succ]
    refine takeH 5 (some 2) (.bool false) rfl rfl (by kernel_rfl) (by kernel_rfl) (by kernel_rfl) (fun _ _ _ h => h) (by rfl) hS2 (fun w hSw => by go_simp) ?_
    simp only [Act.put, List.setIfInBounds_toArray, List.set_cons_zero, List.set_cons_succ]
    refine wpAnyH_done (by kernel_rfl) ?_ _
    go_wp2
    go_ret
    exact ⟨rfl, below_next hA (Nat.le_refl _) hb2⟩

end Go.Proofs.YtcmeppjfjledfakDoor
