/-
  The program's heap: what has come to lie first sinks to its place.
-/
import Derived.Test.YticckgmkhgnmfaaDoorPack3
set_option linter.unusedVariables false
set_option linter.unusedSimpArgs false
namespace Go.Proofs.YticckgmkhgnmfaaDoor
open Go.RowKit Go.Maps
attribute [local go_sem ↓] Go.wp_at_zero Go.wp_at_succ

set_option maxRecDepth 1000000 in
set_option maxHeartbeats 4000000 in
theorem sink_any (hb g cap n : Nat) (E : Nat → Int × Int) (hn : n ≤ 1000000000) (w : World) (h : HList w hb g cap n E) :
    Calls Tryd.prog 102 #[.pointer (some ⟨hb, 0, none⟩)] w fun e w' => e = .returned (.tuple #[]) ∧ ∃ E', HList w' hb g cap n E' ∧ (∀ x, Mem E' n x ↔ Mem E n x) ∧ Stays w w' hb (some g) := by
  have mA := ahead_at
  have mE := ahead_enters
  go_enter Tryd.func102, Tryd.ntmps102
  go_wp2
  go_loopw [2] (fun i wr => ∃ (k : Nat) (E1 : Nat → Int × Int), k ≤ n ∧ i = .int .i64 k ∧ HList wr hb g cap n E1 ∧ (∀ x, Mem E1 n x ↔ Mem E n x) ∧ Stays w wr hb (some g)) (fun i _ => n - (intOf i).toNat)
  case atStart => exact ⟨0, E, Nat.zero_le _, rfl, h, fun _ => Iff.rfl, Stays.refl _ _ _⟩
  case round =>
    obtain ⟨k, E1, hk, rfl, hH, hmem, hbel⟩ := hrel
    have HM : Hid (∀ x, Mem E1 n x ↔ Mem E n x) := hmem
    clear hmem
    have c0 := hH.word
    have f0 := hH.wfree
    have hlt0 : hb < wr.heap.size := lt_of_cell c0
    have hlt1 : g < wr.heap.size := hH.2.1.lt
    by_cases h1 : n ≤ 2 * k + 1
    · have hc1 : (n : Int) ≤ 2 * (k : Int) + 1 := by omega
      go_wp2
      simp [bodyPost, results, Tryd.results102, go_sem]
      exact ⟨E1, hH, fun a b => HM.out (a, b), hbel⟩
    have hc1 : ¬ (n : Int) ≤ 2 * (k : Int) + 1 := by omega
    have hk0 : k < n := by omega
    have hu0 : 2 * k + 1 < n := by omega
    obtain ⟨a0, a1⟩ := hH.2.1.cells hk0
    obtain ⟨b0, b1⟩ := hH.2.1.cells hu0
    have ht1 : (2 * (k : Int) + 1).toNat = 2 * k + 1 := by omega
    have hx1 : (0 : Int) ≤ 2 * (k : Int) + 1 := by omega
    have hx2 : 2 * (k : Int) + 1 < (n : Int) := by omega
    by_cases h2 : n ≤ 2 * k + 2
    · have hc2 : decide (2 * (k : Int) + 1 + 1 < (n : Int)) = false := by simp; omega
      go_wp2
      go_quiet (fail)
      go_wp2
      by_cases hA : (E1 (2 * k + 1)).2 < (E1 k).2
      · have hAd : decide ((E1 (2 * k + 1)).2 < (E1 k).2) = true := by simpa using hA
        go_region_held3 (fun w' => w'.cell? ⟨hb, 0, none⟩ = some (.slice (some ⟨g, 0, none⟩) n cap) ∧ w'.cell? ⟨g, k * 2, none⟩ = some (.int .i64 (E1 k).1) ∧ w'.cell? ⟨g, k * 2 + 1, none⟩ = some (.int .i64 (E1 k).2) ∧ w'.cell? ⟨g, (2 * k + 1) * 2, none⟩ = some (.int .i64 (E1 (2 * k + 1)).1) ∧ w'.cell? ⟨g, (2 * k + 1) * 2 + 1, none⟩ = some (.int .i64 (E1 (2 * k + 1)).2))
          (first | (go_split_ands; refine ⟨?_, ?_, ?_, ?_, ?_⟩ <;> exact keep_cell ‹_› (Nat.le_refl _) (by assumption)) | go_keep)
          (first | (go_at_call 130; refine (ahead_any _ _ _ _ _).mono ?_; rintro e wz ⟨rfl, hbz⟩))
        have hS := (hH.drewN _).below hbz (Nat.le_refl _)
        have hT := (hbel.drewN _).next hbz
        have e0 := hS.word
        have e1 := hS.wfree
        obtain ⟨p0, p1⟩ := hS.2.1.cells hk0
        obtain ⟨q0, q1⟩ := hS.2.1.cells hu0
        have z0 := hS.2.1.frozen (k * 2)
        have z1 := hS.2.1.frozen (k * 2 + 1)
        have z2 := hS.2.1.frozen ((2 * k + 1) * 2)
        have z3 := hS.2.1.frozen ((2 * k + 1) * 2 + 1)
        have PK : Hid (HList wz hb g cap n E1 ∧ Stays w wz hb (some g) ∧ ∀ x, Mem E1 n x ↔ Mem E n x) := ⟨hS, hT, HM.out⟩
        have hgb : g ≠ hb := Nat.ne_of_gt hS.2.2
        have hkn : (k : Int) < (n : Int) := by omega
        clear hbz mA mE hS hT HM hH hbel c0 f0 hlt0 hlt1 a0 a1 b0 b1 h1 hc1 h2 hc2 hA hAd h hk 
        have n1 : ¬ ((2 * k + 1) * 2 = k * 2) := by omega
        have n2 : ¬ ((2 * k + 1) * 2 = k * 2 + 1) := by omega
        have n3 : ¬ ((2 * k + 1) * 2 + 1 = k * 2) := by omega
        have n4 : ¬ ((2 * k + 1) * 2 + 1 = k * 2 + 1) := by omega
        go_wp2
        go_big_region
        obtain ⟨hS, hT, HM⟩ := PK.out
        have R := ((hS.put2 hk0 (E1 (2 * k + 1)).1 (E1 (2 * k + 1)).2).put2 hu0 (E1 k).1 (E1 k).2).drew1
        have B := ((((hT.setG (k * 2) (Or.inr rfl) (.int .i64 (E1 (2 * k + 1)).1)).setG (k * 2 + 1) (Or.inr rfl) (.int .i64 (E1 (2 * k + 1)).2)).setG ((2 * k + 1) * 2) (Or.inr rfl) (.int .i64 (E1 k).1)).setG ((2 * k + 1) * 2 + 1) (Or.inr rfl) (.int .i64 (E1 k).2)).drew1
        have M : ∀ x, Mem (swp E1 k (2 * k + 1)) n x ↔ Mem E n x := fun x => (mem_swp hk0 hu0 x).trans (HM x)
        clear PK hS hT HM e0 e1 p0 p1 q0 q1 z0 z1 z2 z3 n1 n2 n3 n4
        go_wp2
        go_roundw
        case rel => exact ⟨(2 * k + 1), swp E1 k (2 * k + 1), by omega, by go_num, R, M, B⟩
        case measure => simp [intOf]; omega
      · have hAd : decide ((E1 (2 * k + 1)).2 < (E1 k).2) = false := by simpa using hA
        go_region_held3 (fun w' => w'.cell? ⟨hb, 0, none⟩ = some (.slice (some ⟨g, 0, none⟩) n cap) ∧ w'.cell? ⟨g, k * 2, none⟩ = some (.int .i64 (E1 k).1) ∧ w'.cell? ⟨g, k * 2 + 1, none⟩ = some (.int .i64 (E1 k).2) ∧ w'.cell? ⟨g, (2 * k + 1) * 2, none⟩ = some (.int .i64 (E1 (2 * k + 1)).1) ∧ w'.cell? ⟨g, (2 * k + 1) * 2 + 1, none⟩ = some (.int .i64 (E1 (2 * k + 1)).2))
          (first | (go_split_ands; refine ⟨?_, ?_, ?_, ?_, ?_⟩ <;> exact keep_cell ‹_› (Nat.le_refl _) (by assumption)) | go_keep)
          (first | (go_at_call 130; refine (ahead_any _ _ _ _ _).mono ?_; rintro e wz ⟨rfl, hbz⟩))
        have hS := (hH.drewN _).below hbz (Nat.le_refl _)
        have hT := (hbel.drewN _).next hbz
        go_wp2
        simp [bodyPost, results, Tryd.results102, go_sem]
        exact ⟨E1, hS, fun a b => HM.out (a, b), hT⟩
    have hc2 : decide (2 * (k : Int) + 1 + 1 < (n : Int)) = true := by simp; omega
    have hc3 : 2 * (k : Int) + 1 + 1 < (n : Int) := by omega
    have hwr : IntKind.i64.wrap (2 * (k : Int) + 1 + 1) = 2 * (k : Int) + 1 + 1 := by rw [IntKind.wrap_i64]; omega
    have hu2 : 2 * k + 2 < n := by omega
    obtain ⟨d0, d1⟩ := hH.2.1.cells hu2
    have ht2 : (2 * (k : Int) + 1 + 1).toNat = 2 * k + 2 := by omega
    have hx3 : (0 : Int) ≤ 2 * (k : Int) + 1 + 1 := by omega
    by_cases hB : (E1 (2 * k + 2)).2 < (E1 (2 * k + 1)).2
    · have hBd : decide ((E1 (2 * k + 2)).2 < (E1 (2 * k + 1)).2) = true := by simpa using hB
      go_wp2
      go_region_held3 (fun w' => w'.cell? ⟨hb, 0, none⟩ = some (.slice (some ⟨g, 0, none⟩) n cap) ∧ w'.cell? ⟨g, (2 * k + 1) * 2, none⟩ = some (.int .i64 (E1 (2 * k + 1)).1) ∧ w'.cell? ⟨g, (2 * k + 1) * 2 + 1, none⟩ = some (.int .i64 (E1 (2 * k + 1)).2) ∧ w'.cell? ⟨g, (2 * k + 2) * 2, none⟩ = some (.int .i64 (E1 (2 * k + 2)).1) ∧ w'.cell? ⟨g, (2 * k + 2) * 2 + 1, none⟩ = some (.int .i64 (E1 (2 * k + 2)).2))
        (first | (go_split_ands; refine ⟨?_, ?_, ?_, ?_, ?_⟩ <;> exact keep_cell ‹_› (Nat.le_refl _) (by assumption)) | go_keep)
        (first | (go_at_call 130; refine (ahead_any _ _ _ _ _).mono ?_; rintro e wy ⟨rfl, hby⟩))
      have hHy := (hH.drewN _).below hby (Nat.le_refl _)
      have hbely := (hbel.drewN _).next hby
      have c0y := hHy.word
      have f0y := hHy.wfree
      obtain ⟨a0y, a1y⟩ := hHy.2.1.cells hk0
      obtain ⟨b0y, b1y⟩ := hHy.2.1.cells hu2
      clear hby hBd hB
      go_wp2
      by_cases hA : (E1 (2 * k + 2)).2 < (E1 k).2
      · have hAd : decide ((E1 (2 * k + 2)).2 < (E1 k).2) = true := by simpa using hA
        go_region_held3 (fun w' => w'.cell? ⟨hb, 0, none⟩ = some (.slice (some ⟨g, 0, none⟩) n cap) ∧ w'.cell? ⟨g, k * 2, none⟩ = some (.int .i64 (E1 k).1) ∧ w'.cell? ⟨g, k * 2 + 1, none⟩ = some (.int .i64 (E1 k).2) ∧ w'.cell? ⟨g, (2 * k + 2) * 2, none⟩ = some (.int .i64 (E1 (2 * k + 2)).1) ∧ w'.cell? ⟨g, (2 * k + 2) * 2 + 1, none⟩ = some (.int .i64 (E1 (2 * k + 2)).2))
          (first | (go_split_ands; refine ⟨?_, ?_, ?_, ?_, ?_⟩ <;> exact keep_cell ‹_› (Nat.le_refl _) (by assumption)) | go_keep)
          (first | (go_at_call 130; refine (ahead_any _ _ _ _ _).mono ?_; rintro e wz ⟨rfl, hbz⟩))
        have hS := (hHy.drewN _).below hbz (Nat.le_refl _)
        have hT := (hbely.drewN _).next hbz
        have e0 := hS.word
        have e1 := hS.wfree
        obtain ⟨p0, p1⟩ := hS.2.1.cells hk0
        obtain ⟨q0, q1⟩ := hS.2.1.cells hu2
        have z0 := hS.2.1.frozen (k * 2)
        have z1 := hS.2.1.frozen (k * 2 + 1)
        have z2 := hS.2.1.frozen ((2 * k + 2) * 2)
        have z3 := hS.2.1.frozen ((2 * k + 2) * 2 + 1)
        have PK : Hid (HList wz hb g cap n E1 ∧ Stays w wz hb (some g) ∧ ∀ x, Mem E1 n x ↔ Mem E n x) := ⟨hS, hT, HM.out⟩
        have hgb : g ≠ hb := Nat.ne_of_gt hS.2.2
        have hkn : (k : Int) < (n : Int) := by omega
        clear hbz mA mE hS hT HM hH hHy hbel hbely c0 f0 c0y f0y a0y a1y b0y b1y hlt0 hlt1 a0 a1 b0 b1 d0 d1 hc3 h1 hc1 h2 hc2 hA hAd h hk 
        have n1 : ¬ ((2 * k + 2) * 2 = k * 2) := by omega
        have n2 : ¬ ((2 * k + 2) * 2 = k * 2 + 1) := by omega
        have n3 : ¬ ((2 * k + 2) * 2 + 1 = k * 2) := by omega
        have n4 : ¬ ((2 * k + 2) * 2 + 1 = k * 2 + 1) := by omega
        go_wp2
        go_big_region
        obtain ⟨hS, hT, HM⟩ := PK.out
        have R := ((hS.put2 hk0 (E1 (2 * k + 2)).1 (E1 (2 * k + 2)).2).put2 hu2 (E1 k).1 (E1 k).2).drew1
        have B := ((((hT.setG (k * 2) (Or.inr rfl) (.int .i64 (E1 (2 * k + 2)).1)).setG (k * 2 + 1) (Or.inr rfl) (.int .i64 (E1 (2 * k + 2)).2)).setG ((2 * k + 2) * 2) (Or.inr rfl) (.int .i64 (E1 k).1)).setG ((2 * k + 2) * 2 + 1) (Or.inr rfl) (.int .i64 (E1 k).2)).drew1
        have M : ∀ x, Mem (swp E1 k (2 * k + 2)) n x ↔ Mem E n x := fun x => (mem_swp hk0 hu2 x).trans (HM x)
        clear PK hS hT HM e0 e1 p0 p1 q0 q1 z0 z1 z2 z3 n1 n2 n3 n4
        go_wp2
        go_roundw
        case rel => exact ⟨(2 * k + 2), swp E1 k (2 * k + 2), by omega, by go_num, R, M, B⟩
        case measure => simp [intOf]; omega
      · have hAd : decide ((E1 (2 * k + 2)).2 < (E1 k).2) = false := by simpa using hA
        go_region_held3 (fun w' => w'.cell? ⟨hb, 0, none⟩ = some (.slice (some ⟨g, 0, none⟩) n cap) ∧ w'.cell? ⟨g, k * 2, none⟩ = some (.int .i64 (E1 k).1) ∧ w'.cell? ⟨g, k * 2 + 1, none⟩ = some (.int .i64 (E1 k).2) ∧ w'.cell? ⟨g, (2 * k + 2) * 2, none⟩ = some (.int .i64 (E1 (2 * k + 2)).1) ∧ w'.cell? ⟨g, (2 * k + 2) * 2 + 1, none⟩ = some (.int .i64 (E1 (2 * k + 2)).2))
          (first | (go_split_ands; refine ⟨?_, ?_, ?_, ?_, ?_⟩ <;> exact keep_cell ‹_› (Nat.le_refl _) (by assumption)) | go_keep)
          (first | (go_at_call 130; refine (ahead_any _ _ _ _ _).mono ?_; rintro e wz ⟨rfl, hbz⟩))
        have hS := (hHy.drewN _).below hbz (Nat.le_refl _)
        have hT := (hbely.drewN _).next hbz
        go_wp2
        simp [bodyPost, results, Tryd.results102, go_sem]
        exact ⟨E1, hS, fun a b => HM.out (a, b), hT⟩
    · have hBd : decide ((E1 (2 * k + 2)).2 < (E1 (2 * k + 1)).2) = false := by simpa using hB
      go_wp2
      go_region_held3 (fun w' => w'.cell? ⟨hb, 0, none⟩ = some (.slice (some ⟨g, 0, none⟩) n cap) ∧ w'.cell? ⟨g, (2 * k + 1) * 2, none⟩ = some (.int .i64 (E1 (2 * k + 1)).1) ∧ w'.cell? ⟨g, (2 * k + 1) * 2 + 1, none⟩ = some (.int .i64 (E1 (2 * k + 1)).2) ∧ w'.cell? ⟨g, (2 * k + 2) * 2, none⟩ = some (.int .i64 (E1 (2 * k + 2)).1) ∧ w'.cell? ⟨g, (2 * k + 2) * 2 + 1, none⟩ = some (.int .i64 (E1 (2 * k + 2)).2))
        (first | (go_split_ands; refine ⟨?_, ?_, ?_, ?_, ?_⟩ <;> exact keep_cell ‹_› (Nat.le_refl _) (by assumption)) | go_keep)
        (first | (go_at_call 130; refine (ahead_any _ _ _ _ _).mono ?_; rintro e wy ⟨rfl, hby⟩))
      have hHy := (hH.drewN _).below hby (Nat.le_refl _)
      have hbely := (hbel.drewN _).next hby
      have c0y := hHy.word
      have f0y := hHy.wfree
      obtain ⟨a0y, a1y⟩ := hHy.2.1.cells hk0
      obtain ⟨b0y, b1y⟩ := hHy.2.1.cells hu0
      clear hby hBd hB
      go_wp2
      by_cases hA : (E1 (2 * k + 1)).2 < (E1 k).2
      · have hAd : decide ((E1 (2 * k + 1)).2 < (E1 k).2) = true := by simpa using hA
        go_region_held3 (fun w' => w'.cell? ⟨hb, 0, none⟩ = some (.slice (some ⟨g, 0, none⟩) n cap) ∧ w'.cell? ⟨g, k * 2, none⟩ = some (.int .i64 (E1 k).1) ∧ w'.cell? ⟨g, k * 2 + 1, none⟩ = some (.int .i64 (E1 k).2) ∧ w'.cell? ⟨g, (2 * k + 1) * 2, none⟩ = some (.int .i64 (E1 (2 * k + 1)).1) ∧ w'.cell? ⟨g, (2 * k + 1) * 2 + 1, none⟩ = some (.int .i64 (E1 (2 * k + 1)).2))
          (first | (go_split_ands; refine ⟨?_, ?_, ?_, ?_, ?_⟩ <;> exact keep_cell ‹_› (Nat.le_refl _) (by assumption)) | go_keep)
          (first | (go_at_call 130; refine (ahead_any _ _ _ _ _).mono ?_; rintro e wz ⟨rfl, hbz⟩))
        have hS := (hHy.drewN _).below hbz (Nat.le_refl _)
        have hT := (hbely.drewN _).next hbz
        have e0 := hS.word
        have e1 := hS.wfree
        obtain ⟨p0, p1⟩ := hS.2.1.cells hk0
        obtain ⟨q0, q1⟩ := hS.2.1.cells hu0
        have z0 := hS.2.1.frozen (k * 2)
        have z1 := hS.2.1.frozen (k * 2 + 1)
        have z2 := hS.2.1.frozen ((2 * k + 1) * 2)
        have z3 := hS.2.1.frozen ((2 * k + 1) * 2 + 1)
        have PK : Hid (HList wz hb g cap n E1 ∧ Stays w wz hb (some g) ∧ ∀ x, Mem E1 n x ↔ Mem E n x) := ⟨hS, hT, HM.out⟩
        have hgb : g ≠ hb := Nat.ne_of_gt hS.2.2
        have hkn : (k : Int) < (n : Int) := by omega
        clear hbz mA mE hS hT HM hH hHy hbel hbely c0 f0 c0y f0y a0y a1y b0y b1y hlt0 hlt1 a0 a1 b0 b1 d0 d1 hc3 h1 hc1 h2 hc2 hA hAd h hk 
        have n1 : ¬ ((2 * k + 1) * 2 = k * 2) := by omega
        have n2 : ¬ ((2 * k + 1) * 2 = k * 2 + 1) := by omega
        have n3 : ¬ ((2 * k + 1) * 2 + 1 = k * 2) := by omega
        have n4 : ¬ ((2 * k + 1) * 2 + 1 = k * 2 + 1) := by omega
        go_wp2
        go_big_region
        obtain ⟨hS, hT, HM⟩ := PK.out
        have R := ((hS.put2 hk0 (E1 (2 * k + 1)).1 (E1 (2 * k + 1)).2).put2 hu0 (E1 k).1 (E1 k).2).drew1
        have B := ((((hT.setG (k * 2) (Or.inr rfl) (.int .i64 (E1 (2 * k + 1)).1)).setG (k * 2 + 1) (Or.inr rfl) (.int .i64 (E1 (2 * k + 1)).2)).setG ((2 * k + 1) * 2) (Or.inr rfl) (.int .i64 (E1 k).1)).setG ((2 * k + 1) * 2 + 1) (Or.inr rfl) (.int .i64 (E1 k).2)).drew1
        have M : ∀ x, Mem (swp E1 k (2 * k + 1)) n x ↔ Mem E n x := fun x => (mem_swp hk0 hu0 x).trans (HM x)
        clear PK hS hT HM e0 e1 p0 p1 q0 q1 z0 z1 z2 z3 n1 n2 n3 n4
        go_wp2
        go_roundw
        case rel => exact ⟨(2 * k + 1), swp E1 k (2 * k + 1), by omega, by go_num, R, M, B⟩
        case measure => simp [intOf]; omega
      · have hAd : decide ((E1 (2 * k + 1)).2 < (E1 k).2) = false := by simpa using hA
        go_region_held3 (fun w' => w'.cell? ⟨hb, 0, none⟩ = some (.slice (some ⟨g, 0, none⟩) n cap) ∧ w'.cell? ⟨g, k * 2, none⟩ = some (.int .i64 (E1 k).1) ∧ w'.cell? ⟨g, k * 2 + 1, none⟩ = some (.int .i64 (E1 k).2) ∧ w'.cell? ⟨g, (2 * k + 1) * 2, none⟩ = some (.int .i64 (E1 (2 * k + 1)).1) ∧ w'.cell? ⟨g, (2 * k + 1) * 2 + 1, none⟩ = some (.int .i64 (E1 (2 * k + 1)).2))
          (first | (go_split_ands; refine ⟨?_, ?_, ?_, ?_, ?_⟩ <;> exact keep_cell ‹_› (Nat.le_refl _) (by assumption)) | go_keep)
          (first | (go_at_call 130; refine (ahead_any _ _ _ _ _).mono ?_; rintro e wz ⟨rfl, hbz⟩))
        have hS := (hHy.drewN _).below hbz (Nat.le_refl _)
        have hT := (hbely.drewN _).next hbz
        go_wp2
        simp [bodyPost, results, Tryd.results102, go_sem]
        exact ⟨E1, hS, fun a b => HM.out (a, b), hT⟩

end Go.Proofs.YticckgmkhgnmfaaDoor
