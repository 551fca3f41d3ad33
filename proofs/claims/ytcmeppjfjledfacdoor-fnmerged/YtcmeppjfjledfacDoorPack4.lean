/-
  Helpers, merged: RdW, RdJ, ErrIs, LogP.
-/
import Derived.Test.YtcmeppjfjledfacDoorPack3
import Derived.Test.YtcmeppjfjledfacDoorPack1
import Derived.WalkKit
import Derived.LaidEql
import Derived.Stop.Asserts
import Derived.RowKitTokens
/-
  The document's ReadCommand of a text that begins with weigh and a blank.
-/
set_option linter.unusedVariables false
set_option linter.unusedSimpArgs false
namespace Go.Proofs.YtcmeppjfjledfacDoor
open Go.RowKit Go.Maps
attribute [local go_sem ↓] Go.wp_at_zero Go.wp_at_succ

set_option maxHeartbeats 8000000 in
set_option maxRecDepth 20000 in
theorem specRead_weigh (s : ByteArray) (hs : s.size ≤ 1048576) (hN : (s.toList == [110, 111, 110, 101]) = false) (h6 : 6 < s.size) (hA : ((s.extract 0 4).toList == [97, 115, 107, 32]) = false) (hW : ((s.extract 0 6).toList == [119, 101, 105, 103, 104, 32]) = true) (w : World) :
    Calls Tryd.prog 13 #[.string s] w fun e w' => CAns w w' e (onlyOk (weighR (snums (s.data.toList.drop 6) [] []))) := by
  obtain ⟨v1, v2, hB, hsz⟩ := c4_two w (.int .i64 0) (.slice none 0 0) (.int .i64 0) (.int .i64 0) (.int .i64 0) (.slice none 0 0) (.int .i64 0) (.int .i64 0) 26
  have h4' : (4 : Int) < (s.size : Int) := by omega
  have h6' : (6 : Int) < (s.size : Int) := by omega
  have HNU : Hid (∀ W, Calls Tryd.prog 44 #[.string (s.extract 6 s.size)] W fun e w' => NAns W w' e (snums (s.data.toList.drop 6) [] [])) := fun W => by
    have := l1Numbers_any (s.extract 6 s.size) (by simp; omega) W
    rwa [extract_list, List.take_of_length_le (by simp)] at this
  generalize snums (s.data.toList.drop 6) [] [] = T at HNU ⊢
  obtain ⟨R, hR⟩ : ∃ R, R = onlyOk (weighR T) := ⟨_, rfl⟩
  rw [← hR]
  have HR : Hid (R = onlyOk (weighR T)) := hR
  clear hR
  go_enter Tryd.func13, Tryd.ntmps13
  go_wp2_with fail
  generalize ((w.alloc (.cells #[.int .i64 0, .slice none 0 0, .int .i64 0, .int .i64 0] 26)).alloc (.cells #[.int .i64 0, .slice none 0 0, .int .i64 0, .int .i64 0] 26)) = W at v1 v2 hB hsz ⊢
  refine (HNU.out _).mono ?_
  rintro e w1 ⟨ns, ok, g, cap, rfl, hT, hln, hown, hb1⟩
  replace v1 := v1.next hb1
  replace v2 := v2.next hb1
  replace hB := below_next hB (Nat.le_refl _) hb1
  have r0 := v1.cell (j := 0) (by omega)
  have r1 := v1.cell (j := 1) (by omega)
  have r2 := v1.cell (j := 2) (by omega)
  have r3 := v1.cell (j := 3) (by omega)
  have fz := fun j => v1.frozen j
  clear hb1 HNU
  have hbad : (ok = false ∨ (ok = true ∧ ns.length % 3 ≠ 0)) ∨ (ok = true ∧ ns.length % 3 = 0) := by
    cases ok
    · exact .inl (.inl rfl)
    · by_cases h : ns.length % 3 = 0
      · exact .inr ⟨rfl, h⟩
      · exact .inl (.inr ⟨rfl, h⟩)
  rcases hbad with hbad | ⟨rfl, hl2⟩
  · have HE : Hid (R = none) := by
      show _ = _
      rw [HR.out]
      rcases hT with ⟨h1, h2⟩ | ⟨h1, h2⟩
      · rcases hbad with h3 | ⟨_, h3⟩
        · rw [h1] at h3; cases h3
        · rw [h2]; simp [h3, onlyOk, weighR]
      · rw [h2]; rfl
    clear v2 HR hT
    rcases hbad with rfl | ⟨rfl, hl2⟩
    · go_wp2
      obtain ⟨q0, q1, q2, q3⟩ := st4 v1 (.int .i64 0) (.slice none 0 0) (.int .i64 0) (.int .i64 0)
      exact bodyPost_ret (v := .tuple #[.agg #[.int .i64 0, .slice none 0 0, .int .i64 0, .int .i64 0], .bool false]) (by simp [results, Tryd.results13, go_sem, q0, q1, q2, q3]) rfl (by rw [HE.out]; exact ⟨none, 0, rfl, owns_none _ _ _ _, st4_below hB (Nat.le_refl _) _ _ _ _⟩)
    · have hl2' : ((ns.length : Int) % 3 != 0) = true := by simp; omega
      have hl3 : ¬ (ns.length : Int) % 3 = 0 := by omega
      clear hl2
      go_wp2
      obtain ⟨q0, q1, q2, q3⟩ := st4 v1 (.int .i64 0) (.slice none 0 0) (.int .i64 0) (.int .i64 0)
      exact bodyPost_ret (v := .tuple #[.agg #[.int .i64 0, .slice none 0 0, .int .i64 0, .int .i64 0], .bool false]) (by simp [results, Tryd.results13, go_sem, q0, q1, q2, q3]) rfl (by rw [HE.out]; exact ⟨none, 0, rfl, owns_none _ _ _ _, st4_below hB (Nat.le_refl _) _ _ _ _⟩)
  have HR2 : Hid (R = if okC 2 ns = true then some (2, ns) else none) := by
    show _ = _
    rw [HR.out]
    rcases hT with ⟨_, h2⟩ | ⟨h1, _⟩
    · rw [h2]; simp [weighR, hl2, onlyOk]
    · cases h1
  clear HR hT
  have gb := hown.base
  have gl := hown.lt
  have hI := hown.has
  have HL : Hid (ns.length % 3 = 0) := hl2
  have hl3 : (ns.length : Int) % 3 = 0 := by omega
  clear hown hl2 r0 r1 r2 r3 fz
  have hw1 := hB.size
  have t0 : w1.cell? ⟨w.heap.size + 1, 0, none⟩ = some (.int .i64 0) := v2.cell (j := 0) (by omega)
  have fz2 := fun j => v2.frozen j
  have v2' := (v2.set 0 (.int .i64 2)).congr (g := c4 (.int .i64 2) (.slice none 0 0) (.int .i64 0) (.int .i64 0)) (fun j hj => by
    have : j = 0 ∨ j = 1 ∨ j = 2 ∨ j = 3 := by omega
    rcases this with rfl | rfl | rfl | rfl <;> rfl)
  have v1' := v1.other (c := w.heap.size + 1) (i := 0) (by omega) (.int .i64 2)
  have hB' := hB.setCell (p := ⟨w.heap.size + 1, 0, none⟩) (by simp) (.int .i64 2)
  have hI' := hI.of_block (w' := w1.setCell ⟨w.heap.size + 1, 0, none⟩ (.int .i64 2)) (Below.heap_setCell _ _ _ _ (by simp; omega))
  have hs' : (w1.setCell ⟨w.heap.size + 1, 0, none⟩ (.int .i64 2)).heap.size = w1.heap.size := by simp [World.setCell]
  clear v1 v2 hB hI
  go_wp2
  generalize w1.setCell ⟨w.heap.size + 1, 0, none⟩ (.int .i64 2) = X at v1' v2' hB' hI' hs' ⊢
  clear t0 fz2 hl3
  go_loopw [9] (fun x wr => ∃ (m k gc : Nat) (go : Option Addr), Hid (m = 3 * k) ∧ m ≤ ns.length ∧ x = .int .i64 m ∧ VHas wr (w.heap.size + 1) 26 4 (c4 (.int .i64 2) (.slice go k gc) (.int .i64 0) (.int .i64 0)) ∧ VHas wr w.heap.size 26 4 (c4 (.int .i64 0) (.slice none 0 0) (.int .i64 0) (.int .i64 0)) ∧ OwnA wr w1.heap.size go k gc (tri ns) ∧ IHas wr g ns.length (gd ns) ∧ w1.heap.size ≤ wr.heap.size ∧ g < w1.heap.size ∧ Below w.heap.size w wr) (fun x _ => ns.length - (intOf x).toNat)
  case atStart => exact ⟨0, 0, 0, none, rfl, Nat.zero_le _, rfl, v2', v1', OwnA.nil _ _ _, hI', Nat.le_of_eq hs'.symm, gl, hB'⟩
  case round =>
    clear v1' v2' hB' hI' hs'
    obtain ⟨m, k, gc, go, HM, hm, rfl, v2, v1, hO, hI, hsz1, hgl, hB⟩ := hrel
    by_cases hlt : m < ns.length
    · have hk := HM.out
      have h3 := HL.out
      have hlt0 : (m : Int) < (ns.length : Int) := by omega
      have hlt1 : (m : Int) + 1 < (ns.length : Int) := by omega
      have hlt2 : (m : Int) + 2 < (ns.length : Int) := by omega
      have hm0 : (0 : Int) ≤ (m : Int) := by omega
      have c0 : wr.cell? ⟨g, m, none⟩ = some (.int .i64 (tri ns (k * 3))) := by
        rw [tri0, ← hk]
        exact hI.cell (j := m) (by omega)
      have c1 : wr.cell? ⟨g, m + 1, none⟩ = some (.int .i64 (tri ns (k * 3 + 1))) := by
        rw [tri1, ← hk]
        exact hI.cell (j := m + 1) (by omega)
      have c2 : wr.cell? ⟨g, m + 2, none⟩ = some (.int .i64 (tri ns (k * 3 + 2))) := by
        rw [tri2, ← hk]
        exact hI.cell (j := m + 2) (by omega)
      have b1 : wr.cell? ⟨w.heap.size + 1, 1, none⟩ = some (.slice go k gc) := v2.cell (j := 1) (by omega)
      have bz := v2.frozen 1
      have hOd := hO.next (Below.refl _ wr).drew
      have hkb : k ≤ 10000000 := by omega
      have hq1 : IntKind.i64.wrap ((m : Int) + 1) = (m : Int) + 1 := by rw [IntKind.wrap_i64]; omega
      have hq2 : IntKind.i64.wrap ((m : Int) + 2) = (m : Int) + 2 := by rw [IntKind.wrap_i64]; omega
      have hp1 : (0 : Int) ≤ (m : Int) + 1 := by omega
      have hp2 : (0 : Int) ≤ (m : Int) + 2 := by omega
      have hn1 : ((m : Int) + 1).toNat = m + 1 := by omega
      have hn2 : ((m : Int) + 2).toNat = m + 2 := by omega
      clear hk h3
      go_wp2_with fail
      refine wp_region_held_drew (S := (fun X : World => X.cell? ⟨g, m, none⟩ = some (.int .i64 (tri ns (k * 3))) ∧ X.cell? ⟨g, m + 1, none⟩ = some (.int .i64 (tri ns (k * 3 + 1))) ∧ X.cell? ⟨g, m + 2, none⟩ = some (.int .i64 (tri ns (k * 3 + 2))))) (by kernel_rfl) ⟨c0, c1, c2⟩ (fun hS0 => ?_)
      refine takeH 0 (some 76) (.pointer (some ⟨w.heap.size + 1, 1, none⟩)) rfl rfl (by kernel_rfl) (by kernel_rfl) (by kernel_rfl) (fun _ _ _ h => h) (by rfl) hS0 (fun V hV => by obtain ⟨v1, v2, v3⟩ := hV; go_simp) ?_
      simp only [Act.put, List.setIfInBounds_toArray, List.set_cons_zero, List.set_cons_succ]
      refine takeH 2 (some 78) (.slice (some ⟨g, 0, none⟩) ns.length cap) rfl rfl (by kernel_rfl) (by kernel_rfl) (by kernel_rfl) (fun _ _ _ h => h) (by rfl) hS0 (fun V hV => by obtain ⟨v1, v2, v3⟩ := hV; go_simp) ?_
      simp only [Act.put, List.setIfInBounds_toArray, List.set_cons_zero, List.set_cons_succ]
      refine takeH 3 (some 79) (.int .i64 (m : Int)) rfl rfl (by kernel_rfl) (by kernel_rfl) (by kernel_rfl) (fun _ _ _ h => h) (by rfl) hS0 (fun V hV => by obtain ⟨v1, v2, v3⟩ := hV; go_simp) ?_
      simp only [Act.put, List.setIfInBounds_toArray, List.set_cons_zero, List.set_cons_succ]
      refine takeH 4 (some 80) (.pointer (some ⟨g, m, none⟩)) rfl rfl (by kernel_rfl) (by kernel_rfl) (by kernel_rfl) (fun _ _ _ h => h) (by rfl) hS0 (fun V hV => by obtain ⟨v1, v2, v3⟩ := hV; go_simp) ?_
      simp only [Act.put, List.setIfInBounds_toArray, List.set_cons_zero, List.set_cons_succ]
      refine takeH 5 (some 81) (.int .i64 (tri ns (k * 3))) rfl rfl (by kernel_rfl) (by kernel_rfl) (by kernel_rfl) (fun _ _ _ h => h) (by rfl) hS0 (fun V hV => by obtain ⟨v1, v2, v3⟩ := hV; go_simp) ?_
      simp only [Act.put, List.setIfInBounds_toArray, List.set_cons_zero, List.set_cons_succ]
      refine takeH 6 (some 82) (.slice (some ⟨g, 0, none⟩) ns.length cap) rfl rfl (by kernel_rfl) (by kernel_rfl) (by kernel_rfl) (fun _ _ _ h => h) (by rfl) hS0 (fun V hV => by obtain ⟨v1, v2, v3⟩ := hV; go_simp) ?_
      simp only [Act.put, List.setIfInBounds_toArray, List.set_cons_zero, List.set_cons_succ]
      refine takeH 7 (some 83) (.int .i64 (m : Int)) rfl rfl (by kernel_rfl) (by kernel_rfl) (by kernel_rfl) (fun _ _ _ h => h) (by rfl) hS0 (fun V hV => by obtain ⟨v1, v2, v3⟩ := hV; go_simp) ?_
      simp only [Act.put, List.setIfInBounds_toArray, List.set_cons_zero, List.set_cons_succ]
      refine takeH 8 (some 84) (.int .i64 ((m : Int) + 1)) rfl rfl (by kernel_rfl) (by kernel_rfl) (by kernel_rfl) (fun _ _ _ h => h) (by rfl) hS0 (fun V hV => by obtain ⟨v1, v2, v3⟩ := hV; go_simp) ?_
      simp only [Act.put, List.setIfInBounds_toArray, List.set_cons_zero, List.set_cons_succ]
      refine takeH 9 (some 85) (.pointer (some ⟨g, m + 1, none⟩)) rfl rfl (by kernel_rfl) (by kernel_rfl) (by kernel_rfl) (fun _ _ _ h => h) (by rfl) hS0 (fun V hV => by obtain ⟨v1, v2, v3⟩ := hV; go_simp) ?_
      simp only [Act.put, List.setIfInBounds_toArray, List.set_cons_zero, List.set_cons_succ]
      refine takeH 10 (some 86) (.int .i64 (tri ns (k * 3 + 1))) rfl rfl (by kernel_rfl) (by kernel_rfl) (by kernel_rfl) (fun _ _ _ h => h) (by rfl) hS0 (fun V hV => by obtain ⟨v1, v2, v3⟩ := hV; go_simp) ?_
      simp only [Act.put, List.setIfInBounds_toArray, List.set_cons_zero, List.set_cons_succ]
      refine takeH 11 (some 87) (.slice (some ⟨g, 0, none⟩) ns.length cap) rfl rfl (by kernel_rfl) (by kernel_rfl) (by kernel_rfl) (fun _ _ _ h => h) (by rfl) hS0 (fun V hV => by obtain ⟨v1, v2, v3⟩ := hV; go_simp) ?_
      simp only [Act.put, List.setIfInBounds_toArray, List.set_cons_zero, List.set_cons_succ]
      refine takeH 12 (some 88) (.int .i64 (m : Int)) rfl rfl (by kernel_rfl) (by kernel_rfl) (by kernel_rfl) (fun _ _ _ h => h) (by rfl) hS0 (fun V hV => by obtain ⟨v1, v2, v3⟩ := hV; go_simp) ?_
      simp only [Act.put, List.setIfInBounds_toArray, List.set_cons_zero, List.set_cons_succ]
      refine takeH 13 (some 89) (.int .i64 ((m : Int) + 2)) rfl rfl (by kernel_rfl) (by kernel_rfl) (by kernel_rfl) (fun _ _ _ h => h) (by rfl) hS0 (fun V hV => by obtain ⟨v1, v2, v3⟩ := hV; go_simp) ?_
      simp only [Act.put, List.setIfInBounds_toArray, List.set_cons_zero, List.set_cons_succ]
      refine takeH 14 (some 90) (.pointer (some ⟨g, m + 2, none⟩)) rfl rfl (by kernel_rfl) (by kernel_rfl) (by kernel_rfl) (fun _ _ _ h => h) (by rfl) hS0 (fun V hV => by obtain ⟨v1, v2, v3⟩ := hV; go_simp) ?_
      simp only [Act.put, List.setIfInBounds_toArray, List.set_cons_zero, List.set_cons_succ]
      refine takeH 15 (some 91) (.int .i64 (tri ns (k * 3 + 2))) rfl rfl (by kernel_rfl) (by kernel_rfl) (by kernel_rfl) (fun _ _ _ h => h) (by rfl) hS0 (fun V hV => by obtain ⟨v1, v2, v3⟩ := hV; go_simp) ?_
      simp only [Act.put, List.setIfInBounds_toArray, List.set_cons_zero, List.set_cons_succ]
      refine takeH 16 (some 92) (.agg #[.int .i64 (tri ns (k * 3)), .int .i64 (tri ns (k * 3 + 1)), .int .i64 (tri ns (k * 3 + 2))]) rfl rfl (by kernel_rfl) (by kernel_rfl) (by kernel_rfl) (fun _ _ _ h => h) (by rfl) hS0 (fun V hV => by obtain ⟨v1, v2, v3⟩ := hV; go_simp) ?_
      simp only [Act.put, List.setIfInBounds_toArray, List.set_cons_zero, List.set_cons_succ]
      have hba := (Below.refl wr.drew.heap.size wr.drew).alloc (Nat.le_refl _) (.cells #[.int .i64 (tri ns (k * 3)), .int .i64 (tri ns (k * 3 + 1)), .int .i64 (tri ns (k * 3 + 2))] 50)
      have hS1 : (fun X : World => X.cell? ⟨g, m, none⟩ = some (.int .i64 (tri ns (k * 3))) ∧ X.cell? ⟨g, m + 1, none⟩ = some (.int .i64 (tri ns (k * 3 + 1))) ∧ X.cell? ⟨g, m + 2, none⟩ = some (.int .i64 (tri ns (k * 3 + 2)))) (wr.drew.alloc (.cells #[.int .i64 (tri ns (k * 3)), .int .i64 (tri ns (k * 3 + 1)), .int .i64 (tri ns (k * 3 + 2))] 50)) := ⟨keep_cell hba (Nat.le_refl _) c0, keep_cell hba (Nat.le_refl _) c1, keep_cell hba (Nat.le_refl _) c2⟩
      have hm1 : wr.drew.heap.size = wr.heap.size := rfl
      refine step2H 1 17 _ _ rfl rfl (by kernel_rfl) (by rfl) (by rfl) ?_ ?_
      · skip
        refine wp_of_run (v := .slice go k gc) (by go_simp) ?_
        refine ⟨hS0, ?_⟩
        simp only [Act.put, List.setIfInBounds_toArray, List.set_cons_zero, List.set_cons_succ]
        refine step1H 17 _ rfl (by kernel_rfl) (by rfl) ?_
        refine wp_of_made (v := .slice (some ⟨wr.heap.size, 0, none⟩) 1 1) (w' := wr.drew.alloc (.cells #[.int .i64 (tri ns (k * 3)), .int .i64 (tri ns (k * 3 + 1)), .int .i64 (tri ns (k * 3 + 2))] 50)) (by go_simp) ?_
        refine ⟨hS1, ?_⟩
        simp only [Act.put, List.setIfInBounds_toArray, List.set_cons_zero, List.set_cons_succ]
        refine step1H 18 _ rfl (by kernel_rfl) (by rfl) ?_
        refine wp_append_known (.tmp 77) (.tmp 93) rfl w1.heap.size k gc go (tri ns) rfl (hOd.next hba) wr.heap.size rfl (Go.Deep.blk_alloc_new _ _) hkb (by simp; omega) ?_
        intro g' gc' w6 hown6 hgrow hr6
        have hne : ∀ x, (Value.slice go k gc).ownBlock = some x → w1.heap.size ≤ x := fun x e => (hO.at e).1
        have hS6 : (fun X : World => X.cell? ⟨g, m, none⟩ = some (.int .i64 (tri ns (k * 3))) ∧ X.cell? ⟨g, m + 1, none⟩ = some (.int .i64 (tri ns (k * 3 + 1))) ∧ X.cell? ⟨g, m + 2, none⟩ = some (.int .i64 (tri ns (k * 3 + 2)))) w6 := ⟨hgrow.cell hS1.1 (fun e => by have := hne g e.symm; omega), hgrow.cell hS1.2.1 (fun e => by have := hne g e.symm; omega), hgrow.cell hS1.2.2 (fun e => by have := hne g e.symm; omega)⟩
        refine ⟨hS6, ?_⟩
        simp only [Act.put, List.setIfInBounds_toArray, List.set_cons_zero, List.set_cons_succ]
        have x2 := ((v2.next (Below.refl _ wr).drew).next hba).grown hgrow (fun e => by have := hne _ e.symm; omega)
        have x1 := ((v1.next (Below.refl _ wr).drew).next hba).grown hgrow (fun e => by have := hne _ e.symm; omega)
        have xI := ((hI.below (Below.refl wr.heap.size wr).drew hI.lt).below hba hI.lt).grown hgrow (fun e => by have := hne _ e.symm; omega)
        have y1 : w6.cell? ⟨w.heap.size + 1, 1, none⟩ = some (.slice go k gc) := x2.cell (j := 1) (by omega)
        have z1 := x2.frozen 1
        refine takeH 19 (some 95) (.pointer (some ⟨w.heap.size + 1, 1, none⟩)) rfl rfl (by kernel_rfl) (by kernel_rfl) (by kernel_rfl) (fun _ _ _ h => h) (by rfl) hS6 (fun V hV => by obtain ⟨v1, v2, v3⟩ := hV; go_simp) ?_
        simp only [Act.put, List.setIfInBounds_toArray, List.set_cons_zero, List.set_cons_succ]
        refine step1H 20 _ rfl (by kernel_rfl) (by rfl) ?_
        refine wp_of_skip (w' := w6.setCell ⟨w.heap.size + 1, 1, none⟩ (.slice (some ⟨g', 0, none⟩) (k + 1) gc')) (by go_simp) ?_
        have hs9 := gr_setCell w6 (w.heap.size + 1) 1 (.slice (some ⟨g', 0, none⟩) (k + 1) gc')
        refine ⟨⟨hs9.cell hS6.1 (by simp; omega), hs9.cell hS6.2.1 (by simp; omega), hs9.cell hS6.2.2 (by simp; omega)⟩, ?_⟩
        simp only [Act.put, List.setIfInBounds_toArray, List.set_cons_zero, List.set_cons_succ]
        refine wpAnyH_done (by kernel_rfl) ?_ _
        have n2 := (x2.set 1 (.slice (some ⟨g', 0, none⟩) (k + 1) gc')).congr (g := c4 (.int .i64 2) (.slice (some ⟨g', 0, none⟩) (k + 1) gc') (.int .i64 0) (.int .i64 0)) (fun j hj => by
          have : j = 0 ∨ j = 1 ∨ j = 2 ∨ j = 3 := by omega
          rcases this with rfl | rfl | rfl | rfl <;> rfl)
        have n1 := x1.other (c := w.heap.size + 1) (i := 1) (by omega) (.slice (some ⟨g', 0, none⟩) (k + 1) gc')
        have nI := xI.grown hs9 (by simp; omega)
        have nO := hown6.grown hs9 (fun x e => by have := (hown6.at e).1; simp; omega)
        have hsz6 : wr.heap.size ≤ w6.heap.size := by have := hgrow.size; simp at this; omega
        have hsz9 : w1.heap.size ≤ (w6.setCell ⟨w.heap.size + 1, 1, none⟩ (.slice (some ⟨g', 0, none⟩) (k + 1) gc')).heap.size := by have := hs9.size; omega
        have nB0 := (hB.drew.alloc (o := (.cells #[.int .i64 (tri ns (k * 3)), .int .i64 (tri ns (k * 3 + 1)), .int .i64 (tri ns (k * 3 + 2))] 50)) (by have := hB.size; simp; omega)).grown hgrow (by have := hB.size; simp; omega) (fun x e => by have := hne x e; omega)
        have nB := nB0.setCell (p := ⟨w.heap.size + 1, 1, none⟩) (by simp) (.slice (some ⟨g', 0, none⟩) (k + 1) gc')
        clear x1 x2 xI y1 z1 hS6 hS1 hS0 hba hs9 hgrow hown6 hr6 nB0 hOd v1 v2 hO hI c0 c1 c2 b1 bz hB
        generalize w6.setCell ⟨w.heap.size + 1, 1, none⟩ (.slice (some ⟨g', 0, none⟩) (k + 1) gc') = X9 at n1 n2 nI nO nB hsz9 ⊢
        go_wp2_with fail
        go_roundw
        case rel => exact ⟨m + 3, k + 1, gc', some ⟨g', 0, none⟩, by show _ = _; have := HM.out; omega, by omega, by go_num, n2, n1, nO, nI, hsz9, hgl, nB⟩
        case measure => simp [intOf]; omega
      · skip
        refine wp_of_made (v := .slice (some ⟨wr.heap.size, 0, none⟩) 1 1) (w' := wr.drew.alloc (.cells #[.int .i64 (tri ns (k * 3)), .int .i64 (tri ns (k * 3 + 1)), .int .i64 (tri ns (k * 3 + 2))] 50)) (by go_simp) ?_
        refine ⟨hS1, ?_⟩
        simp only [Act.put, List.setIfInBounds_toArray, List.set_cons_zero, List.set_cons_succ]
        have b2 : (wr.alloc (.cells #[.int .i64 (tri ns (k * 3)), .int .i64 (tri ns (k * 3 + 1)), .int .i64 (tri ns (k * 3 + 2))] 50)).cell? ⟨w.heap.size + 1, 1, none⟩ = some (.slice go k gc) := keep_cell ((Below.refl wr.heap.size wr).alloc (Nat.le_refl _) _) (Nat.le_refl _) b1
        refine step1H 1 _ rfl (by kernel_rfl) (by rfl) ?_
        refine wp_of_run (v := .slice go k gc) (by go_simp) ?_
        refine ⟨hS1, ?_⟩
        simp only [Act.put, List.setIfInBounds_toArray, List.set_cons_zero, List.set_cons_succ]
        clear b2
        refine step1H 18 _ rfl (by kernel_rfl) (by rfl) ?_
        refine wp_append_known (.tmp 77) (.tmp 93) rfl w1.heap.size k gc go (tri ns) rfl (hOd.next hba) wr.heap.size rfl (Go.Deep.blk_alloc_new _ _) hkb (by simp; omega) ?_
        intro g' gc' w6 hown6 hgrow hr6
        have hne : ∀ x, (Value.slice go k gc).ownBlock = some x → w1.heap.size ≤ x := fun x e => (hO.at e).1
        have hS6 : (fun X : World => X.cell? ⟨g, m, none⟩ = some (.int .i64 (tri ns (k * 3))) ∧ X.cell? ⟨g, m + 1, none⟩ = some (.int .i64 (tri ns (k * 3 + 1))) ∧ X.cell? ⟨g, m + 2, none⟩ = some (.int .i64 (tri ns (k * 3 + 2)))) w6 := ⟨hgrow.cell hS1.1 (fun e => by have := hne g e.symm; omega), hgrow.cell hS1.2.1 (fun e => by have := hne g e.symm; omega), hgrow.cell hS1.2.2 (fun e => by have := hne g e.symm; omega)⟩
        refine ⟨hS6, ?_⟩
        simp only [Act.put, List.setIfInBounds_toArray, List.set_cons_zero, List.set_cons_succ]
        have x2 := ((v2.next (Below.refl _ wr).drew).next hba).grown hgrow (fun e => by have := hne _ e.symm; omega)
        have x1 := ((v1.next (Below.refl _ wr).drew).next hba).grown hgrow (fun e => by have := hne _ e.symm; omega)
        have xI := ((hI.below (Below.refl wr.heap.size wr).drew hI.lt).below hba hI.lt).grown hgrow (fun e => by have := hne _ e.symm; omega)
        have y1 : w6.cell? ⟨w.heap.size + 1, 1, none⟩ = some (.slice go k gc) := x2.cell (j := 1) (by omega)
        have z1 := x2.frozen 1
        refine takeH 19 (some 95) (.pointer (some ⟨w.heap.size + 1, 1, none⟩)) rfl rfl (by kernel_rfl) (by kernel_rfl) (by kernel_rfl) (fun _ _ _ h => h) (by rfl) hS6 (fun V hV => by obtain ⟨v1, v2, v3⟩ := hV; go_simp) ?_
        simp only [Act.put, List.setIfInBounds_toArray, List.set_cons_zero, List.set_cons_succ]
        refine step1H 20 _ rfl (by kernel_rfl) (by rfl) ?_
        refine wp_of_skip (w' := w6.setCell ⟨w.heap.size + 1, 1, none⟩ (.slice (some ⟨g', 0, none⟩) (k + 1) gc')) (by go_simp) ?_
        have hs9 := gr_setCell w6 (w.heap.size + 1) 1 (.slice (some ⟨g', 0, none⟩) (k + 1) gc')
        refine ⟨⟨hs9.cell hS6.1 (by simp; omega), hs9.cell hS6.2.1 (by simp; omega), hs9.cell hS6.2.2 (by simp; omega)⟩, ?_⟩
        simp only [Act.put, List.setIfInBounds_toArray, List.set_cons_zero, List.set_cons_succ]
        refine wpAnyH_done (by kernel_rfl) ?_ _
        have n2 := (x2.set 1 (.slice (some ⟨g', 0, none⟩) (k + 1) gc')).congr (g := c4 (.int .i64 2) (.slice (some ⟨g', 0, none⟩) (k + 1) gc') (.int .i64 0) (.int .i64 0)) (fun j hj => by
          have : j = 0 ∨ j = 1 ∨ j = 2 ∨ j = 3 := by omega
          rcases this with rfl | rfl | rfl | rfl <;> rfl)
        have n1 := x1.other (c := w.heap.size + 1) (i := 1) (by omega) (.slice (some ⟨g', 0, none⟩) (k + 1) gc')
        have nI := xI.grown hs9 (by simp; omega)
        have nO := hown6.grown hs9 (fun x e => by have := (hown6.at e).1; simp; omega)
        have hsz6 : wr.heap.size ≤ w6.heap.size := by have := hgrow.size; simp at this; omega
        have hsz9 : w1.heap.size ≤ (w6.setCell ⟨w.heap.size + 1, 1, none⟩ (.slice (some ⟨g', 0, none⟩) (k + 1) gc')).heap.size := by have := hs9.size; omega
        have nB0 := (hB.drew.alloc (o := (.cells #[.int .i64 (tri ns (k * 3)), .int .i64 (tri ns (k * 3 + 1)), .int .i64 (tri ns (k * 3 + 2))] 50)) (by have := hB.size; simp; omega)).grown hgrow (by have := hB.size; simp; omega) (fun x e => by have := hne x e; omega)
        have nB := nB0.setCell (p := ⟨w.heap.size + 1, 1, none⟩) (by simp) (.slice (some ⟨g', 0, none⟩) (k + 1) gc')
        clear x1 x2 xI y1 z1 hS6 hS1 hS0 hba hs9 hgrow hown6 hr6 nB0 hOd v1 v2 hO hI c0 c1 c2 b1 bz hB
        generalize w6.setCell ⟨w.heap.size + 1, 1, none⟩ (.slice (some ⟨g', 0, none⟩) (k + 1) gc') = X9 at n1 n2 nI nO nB hsz9 ⊢
        go_wp2_with fail
        go_roundw
        case rel => exact ⟨m + 3, k + 1, gc', some ⟨g', 0, none⟩, by show _ = _; have := HM.out; omega, by omega, by go_num, n2, n1, nO, nI, hsz9, hgl, nB⟩
        case measure => simp [intOf]; omega
    · have hk := HM.out
      have h3 := HL.out
      have hmn : m = ns.length := by omega
      have hk3 : ns.length / 3 = k := by omega
      have hlt0 : ¬ (m : Int) < (ns.length : Int) := by omega
      have HK : Hid (ns.length / 3 = k) := hk3
      clear hk h3 hk3
      have s0 : wr.cell? ⟨w.heap.size + 1, 0, none⟩ = some (.int .i64 2) := v2.cell (j := 0) (by omega)
      have s1 : wr.cell? ⟨w.heap.size + 1, 1, none⟩ = some (.slice go k gc) := v2.cell (j := 1) (by omega)
      have s2 : wr.cell? ⟨w.heap.size + 1, 2, none⟩ = some (.int .i64 0) := v2.cell (j := 2) (by omega)
      have s3 : wr.cell? ⟨w.heap.size + 1, 3, none⟩ = some (.int .i64 0) := v2.cell (j := 3) (by omega)
      go_wp2_with fail
      refine (specCommandOk_any 2 go k gc (at3 ns 0) (at3 ns 1) (at3 ns 2) 0 0 (by have := HK.out; omega) _ (hO.owns.row)).mono ?_
      rintro e w2 ⟨rfl, hb2⟩
      have hkk : cmdB 2 k (at3 ns 0) (at3 ns 1) (at3 ns 2) 0 0 = okC 2 ns := by simp [okC, HK.out]
      rw [hkk]
      clear hkk s0 s1 s2 s3
      replace v1 := v1.next hb2
      replace v2 := v2.next hb2
      replace hB := below_next hB (Nat.le_refl _) hb2
      have hOS := (hO.next hb2).owns
      have s0 : w2.cell? ⟨w.heap.size + 1, 0, none⟩ = some (.int .i64 2) := v2.cell (j := 0) (by omega)
      have s1 : w2.cell? ⟨w.heap.size + 1, 1, none⟩ = some (.slice go k gc) := v2.cell (j := 1) (by omega)
      have s2 : w2.cell? ⟨w.heap.size + 1, 2, none⟩ = some (.int .i64 0) := v2.cell (j := 2) (by omega)
      have s3 : w2.cell? ⟨w.heap.size + 1, 3, none⟩ = some (.int .i64 0) := v2.cell (j := 3) (by omega)
      have r0 := v1.cell (j := 0) (by omega)
      have r1 := v1.cell (j := 1) (by omega)
      have r2 := v1.cell (j := 2) (by omega)
      have r3 := v1.cell (j := 3) (by omega)
      have fz := fun j => v1.frozen j
      clear hb2 v2 hO hI
      cases hok : okC 2 ns
      · have HE : Hid (R = none) := by
          show _ = _
          rw [HR2.out, hok]
          rfl
        clear HR2
        go_wp2
        obtain ⟨q0, q1, q2, q3⟩ := st4 v1 (.int .i64 0) (.slice none 0 0) (.int .i64 0) (.int .i64 0)
        exact bodyPost_ret (v := .tuple #[.agg #[.int .i64 0, .slice none 0 0, .int .i64 0, .int .i64 0], .bool false]) (by simp [results, Tryd.results13, go_sem, q0, q1, q2, q3]) rfl (by rw [HE.out]; exact ⟨none, 0, rfl, owns_none _ _ _ _, st4_below hB (Nat.le_refl _) _ _ _ _⟩)
      · have HE : Hid (R = some (2, ns)) := by
          show _ = _
          rw [HR2.out, hok]
          rfl
        clear HR2
        go_wp2
        obtain ⟨q0, q1, q2, q3⟩ := st4 v1 (.int .i64 2) (.slice go k gc) (.int .i64 0) (.int .i64 0)
        exact bodyPost_ret (v := .tuple #[.agg #[.int .i64 2, .slice go k gc, .int .i64 0, .int .i64 0], .bool true]) (by simp [results, Tryd.results13, go_sem, q0, q1, q2, q3]) rfl (by rw [HE.out]; exact cans_weigh HK.out ((hOS.from (by omega)).of_st4 (fun h0 a e => by obtain ⟨b, e2, hb, _⟩ := hOS 0 h0; rw [e] at e2; cases e2; simp; omega) _ _ _ _) (st4_below hB (Nat.le_refl _) _ _ _ _))

end Go.Proofs.YtcmeppjfjledfacDoor

/-
  The program's ReadCommand answers as the document's: plainly what the text says. For every text of at most 2^20 bytes.
-/
set_option linter.unusedVariables false
set_option linter.unusedSimpArgs false
namespace Go.Proofs.YtcmeppjfjledfacDoor
open Go.RowKit Go.Maps
attribute [local go_sem ↓] Go.wp_at_zero Go.wp_at_succ

theorem okC_cmd {nm : List UInt8} {ns ns' : List Int} {K : Int} (h : cmdOf nm ns = some (K, ns')) :
    cmdB (kOf (some (K, ns'))) ((lOf (some (K, ns'))).length / 3) (at3 (lOf (some (K, ns'))) 0) (at3 (lOf (some (K, ns'))) 1) (at3 (lOf (some (K, ns'))) 2) (aOf (some (K, ns')) 0) (aOf (some (K, ns')) 1) = okC K ns' := by
  unfold cmdOf at h
  split at h
  · split at h
    · simp at h
      obtain ⟨rfl, rfl⟩ := h
      simp [kOf, lOf, aOf, okC, cmdB]
    · cases h
  split at h
  · split at h
    · simp at h
      obtain ⟨rfl, rfl⟩ := h
      simp [kOf, lOf, aOf, okC]
    · cases h
  split at h
  · split at h
    · simp at h
      obtain ⟨rfl, rfl⟩ := h
      simp [kOf, lOf, aOf, okC, cmdB]
    · cases h
  · cases h

set_option maxHeartbeats 4000000 in
set_option maxRecDepth 20000 in
theorem implRead_any (s : ByteArray) (hs : s.size ≤ 1048576) (w : World) :
    Calls Tryd.prog 10 #[.string s] w fun e w' => CAns w w' e (onlyOk (rdI s.data.toList)) := by
  obtain ⟨R, hR⟩ : ∃ R, R = onlyOk (rdI s.data.toList) := ⟨_, rfl⟩
  rw [← hR]
  have HR : Hid (R = onlyOk (rdI s.data.toList)) := hR
  clear hR
  have v1 := c4_new w (.int .i64 0) (.slice none 0 0) (.int .i64 0) (.int .i64 0) 26
  have hB := (Below.refl w.heap.size w).alloc (Nat.le_refl _) (.cells #[.int .i64 0, .slice none 0 0, .int .i64 0, .int .i64 0] 26)
  go_enter Tryd.func10, Tryd.ntmps10
  go_wp2_with fail
  generalize (w.alloc (.cells #[.int .i64 0, .slice none 0 0, .int .i64 0, .int .i64 0] 26)) = W at v1 hB ⊢
  refine (readWords_any s hs _).mono ?_
  rintro e w1 ⟨nm, ns, ok, go, gc, rfl, hT, h30, hO, hb1⟩
  replace v1 := v1.next hb1
  replace hB := below_next hB (Nat.le_refl _) hb1
  have hl1 := v1.lt
  clear hb1
  rcases hT with ⟨rfl, hT⟩ | ⟨rfl, hT⟩
  rotate_left
  · have HE : Hid (R = none) := by
      show _ = _
      rw [HR.out]
      unfold rdI
      rw [hT]
      rfl
    have r0 := v1.cell (j := 0) (by omega)
    have r1 := v1.cell (j := 1) (by omega)
    have r2 := v1.cell (j := 2) (by omega)
    have r3 := v1.cell (j := 3) (by omega)
    have fz := fun j => v1.frozen j
    clear HR hT
    go_wp2
    obtain ⟨q0, q1, q2, q3⟩ := st4 v1 (.int .i64 0) (.slice none 0 0) (.int .i64 0) (.int .i64 0)
    exact bodyPost_ret (v := .tuple #[.agg #[.int .i64 0, .slice none 0 0, .int .i64 0, .int .i64 0], .bool false]) (by simp [results, Tryd.results10, go_sem, q0, q1, q2, q3]) rfl (by rw [HE.out]; exact ⟨none, 0, rfl, owns_none _ _ _ _, st4_below hB (Nat.le_refl _) _ _ _ _⟩)
  have HR2 : Hid (R = onlyOk (cmdOf nm.data.toList ns)) := by
    show _ = _
    rw [HR.out]
    unfold rdI
    rw [hT]
  clear HR hT
  go_wp2_with fail
  refine (commandOf_any nm go gc _ ns h30 _ hO).mono ?_
  rintro e w2 ⟨K, ao, n, cap, a, b, rfl, hn, hd, hb2⟩
  replace v1 := v1.next hb2
  have hsz1 := hB.size
  replace hB := below_next hB (Nat.le_refl _) hb2
  clear hb2 hO
  have hal := (Below.refl w2.heap.size w2).alloc (Nat.le_refl _) (.cells #[.int .i64 K, .slice ao n cap, .int .i64 a, .int .i64 b] 26)
  replace v1 := v1.next hal
  have v2 := c4_new w2 (.int .i64 K) (.slice ao n cap) (.int .i64 a) (.int .i64 b) 26
  replace hB := below_next hB (Nat.le_refl _) hal
  cases hr : cmdOf nm.data.toList ns with
  | none =>
    have HE : Hid (R = none) := by
      show _ = _
      rw [HR2.out, hr]
      rfl
    have r0 := v1.cell (j := 0) (by omega)
    have r1 := v1.cell (j := 1) (by omega)
    have r2 := v1.cell (j := 2) (by omega)
    have r3 := v1.cell (j := 3) (by omega)
    have fz := fun j => v1.frozen j
    clear HR2 hr hd hal v2
    simp only [Option.isSome_none]
    go_wp2
    obtain ⟨q0, q1, q2, q3⟩ := st4 v1 (.int .i64 0) (.slice none 0 0) (.int .i64 0) (.int .i64 0)
    exact bodyPost_ret (v := .tuple #[.agg #[.int .i64 0, .slice none 0 0, .int .i64 0, .int .i64 0], .bool false]) (by simp [results, Tryd.results10, go_sem, q0, q1, q2, q3]) rfl (by rw [HE.out]; exact ⟨none, 0, rfl, owns_none _ _ _ _, st4_below hB (Nat.le_refl _) _ _ _ _⟩)
  | some r =>
    obtain ⟨K', ns'⟩ := r
    rw [hr] at hd
    obtain ⟨e1, e2, e3, e4, hOS⟩ := hd rfl
    have hOS1 := hOS.nxt hal
    have HCO : Hid (∀ W, Row W ao n (at3 (lOf (some (K', ns'))) 0) (at3 (lOf (some (K', ns'))) 1) (at3 (lOf (some (K', ns'))) 2) → Calls Tryd.prog 30 #[.agg #[.int .i64 K, .slice ao n cap, .int .i64 a, .int .i64 b]] W fun e w' => e = .returned (.bool (okC K' ns')) ∧ Below W.heap.size W w') := fun W h => by
      have := implCommandOk_any K ao n cap _ _ _ a b (by omega) W h
      rw [e1, e2, e3, e4, okC_cmd hr] at this
      rw [e1, e2, e3, e4]
      exact this
    have HR3 : Hid (R = if okC K' ns' = true then some (K', ns') else none) := by
      show _ = _
      rw [HR2.out, hr]
      rfl
    have HF : Hid (K = kOf (some (K', ns')) ∧ n = (lOf (some (K', ns'))).length / 3 ∧ a = aOf (some (K', ns')) 0 ∧ b = aOf (some (K', ns')) 1) := ⟨e1, e2, e3, e4⟩
    simp only [Option.isSome_some]
    clear HR2 hr hd e1 e2 e3 e4 hOS hal
    have hrow : Row (w2.alloc (.cells #[.int .i64 K, .slice ao n cap, .int .i64 a, .int .i64 b] 26)) ao n (at3 (lOf (some (K', ns'))) 0) (at3 (lOf (some (K', ns'))) 1) (at3 (lOf (some (K', ns'))) 2) := OwnS.row hOS1
    go_wp2_with fail
    generalize (w2.alloc (.cells #[.int .i64 K, .slice ao n cap, .int .i64 a, .int .i64 b] 26)) = X at v1 v2 hB hOS1 hrow ⊢
    refine (HCO.out _ hrow).mono ?_
    rintro e w3 ⟨rfl, hb3⟩
    replace v1 := v1.next hb3
    replace v2 := v2.next hb3
    replace hB := below_next hB (Nat.le_refl _) hb3
    replace hOS1 := hOS1.nxt hb3
    have s0 : w3.cell? ⟨w2.heap.size, 0, none⟩ = some (.int .i64 K) := v2.cell (j := 0) (by omega)
    have s1 : w3.cell? ⟨w2.heap.size, 1, none⟩ = some (.slice ao n cap) := v2.cell (j := 1) (by omega)
    have s2 : w3.cell? ⟨w2.heap.size, 2, none⟩ = some (.int .i64 a) := v2.cell (j := 2) (by omega)
    have s3 : w3.cell? ⟨w2.heap.size, 3, none⟩ = some (.int .i64 b) := v2.cell (j := 3) (by omega)
    have r0 := v1.cell (j := 0) (by omega)
    have r1 := v1.cell (j := 1) (by omega)
    have r2 := v1.cell (j := 2) (by omega)
    have r3 := v1.cell (j := 3) (by omega)
    have fz := fun j => v1.frozen j
    clear hb3 v2 HCO hrow
    cases hok : okC K' ns'
    · have HE : Hid (R = none) := by
        show _ = _
        rw [HR3.out, hok]
        rfl
      clear HR3 HF
      go_wp2
      obtain ⟨q0, q1, q2, q3⟩ := st4 v1 (.int .i64 0) (.slice none 0 0) (.int .i64 0) (.int .i64 0)
      exact bodyPost_ret (v := .tuple #[.agg #[.int .i64 0, .slice none 0 0, .int .i64 0, .int .i64 0], .bool false]) (by simp [results, Tryd.results10, go_sem, q0, q1, q2, q3]) rfl (by rw [HE.out]; exact ⟨none, 0, rfl, owns_none _ _ _ _, st4_below hB (Nat.le_refl _) _ _ _ _⟩)
    · have HE : Hid (R = some (K', ns')) := by
        show _ = _
        rw [HR3.out, hok]
        rfl
      clear HR3
      go_wp2
      obtain ⟨q0, q1, q2, q3⟩ := st4 v1 (.int .i64 K) (.slice ao n cap) (.int .i64 a) (.int .i64 b)
      refine bodyPost_ret (v := .tuple #[.agg #[.int .i64 K, .slice ao n cap, .int .i64 a, .int .i64 b], .bool true]) (by simp [results, Tryd.results10, go_sem, q0, q1, q2, q3]) rfl ?_
      rw [HE.out]
      obtain ⟨e1, e2, e3, e4⟩ := HF.out
      refine ⟨ao, cap, by rw [← e1, ← e2, ← e3, ← e4]; rfl, ?_, st4_below hB (Nat.le_refl _) _ _ _ _⟩
      rw [← e2]
      exact (hOS1.from (by omega)).of_st4 (fun h0 p e => by obtain ⟨x, e5, hb, _⟩ := hOS1 0 h0; rw [e] at e5; cases e5; simp; omega) _ _ _ _

/-- The document's reading of every text. -/
theorem specRead_any (s : ByteArray) (hs : s.size ≤ 1048576) (w : World) :
    Calls Tryd.prog 13 #[.string s] w fun e w' => CAns w w' e (onlyOk (rdS s.data.toList)) := by
  have hl : s.toList = s.data.toList := ByteArray.toList_eq s
  have he : ∀ k, (s.extract 0 k).toList = s.data.toList.take k := fun k => by rw [ByteArray.toList_eq, extract_list]; simp
  have hsz : s.data.toList.length = s.size := by simp
  by_cases hN : s.data.toList = txNone
  · have e : rdS s.data.toList = some (1, []) := by unfold rdS; rw [if_pos hN]
    rw [e]
    exact specRead_none s hs (by rw [hl]; exact beqT hN) w
  have hNb : (s.toList == [110, 111, 110, 101]) = false := by rw [hl]; exact beqF hN
  by_cases hA : 4 < s.size ∧ s.data.toList.take 4 = txAsk ++ [32]
  · have e : rdS s.data.toList = askR (snums (s.data.toList.drop 4) [] []) := by
      unfold rdS
      rw [if_neg hN, if_pos (by rw [hsz]; exact hA)]
      rfl
    rw [e]
    exact specRead_ask s hs hNb hA.1 (by rw [he]; exact beqT hA.2) w
  by_cases hW : 6 < s.size ∧ s.data.toList.take 6 = txWeigh ++ [32]
  · have e : rdS s.data.toList = weighR (snums (s.data.toList.drop 6) [] []) := by
      unfold rdS
      rw [if_neg hN, if_neg (by rw [hsz]; exact hA), if_pos (by rw [hsz]; exact hW)]
      rfl
    rw [e]
    exact specRead_weigh s hs hNb hW.1 (by rw [he]; exact beqF (fun h => hA ⟨by omega, h⟩)) (by rw [he]; exact beqT hW.2) w
  · have e : rdS s.data.toList = none := by
      unfold rdS
      rw [if_neg hN, if_neg (by rw [hsz]; exact hA), if_neg (by rw [hsz]; exact hW)]
    rw [e]
    exact specRead_zero s hs hNb (fun h4 => by rw [he]; exact beqF (fun h => hA ⟨h4, h⟩)) (fun h6 => by rw [he]; exact beqF (fun h => hW ⟨h6, h⟩)) w
theorem implRead_same (s : ByteArray) (hs : s.size ≤ 1048576) (w : World) :
    Calls Tryd.prog 10 #[.string s] w fun e w' => CAns w w' e (onlyOk (rdS s.data.toList)) := by
  rw [← read_same]
  exact implRead_any s hs w

end Go.Proofs.YtcmeppjfjledfacDoor

/-
  errors.Is of the program's own error (a number and the reason that it wraps), by its contracts: asked for that very reason, and of nil.
-/
set_option linter.unusedVariables false
set_option linter.unusedSimpArgs false
namespace Go.Proofs.YtcmeppjfjledfacDoor
open Go.RowKit Go.Extern.Stop Go.Stop Go.Extern

/-- What Comparable of a type is, under a name of its own. -/
def comparableM : Array Value → Sem Value := Extern.ReflectliteType.method fun t => do Go.Extern.Rtype.noPackHeld "Comparable" t; pure (.bool (← typeInfo t).comparable)
theorem Tryd.isTypeOf (v : Value) (w : World) : (Extern.ReflectliteType.typeOf #[.iface 177 v]).run Tryd.prog w = .ok (.iface 130 (.agg #[.pointer (some ⟨8, 177, none⟩)])) w := by kernel_rfl
theorem Tryd.isComparable (w : World) : (comparableM #[.agg #[.pointer (some ⟨8, 177, none⟩)]]).run Tryd.prog w = .ok (.bool true) w := by kernel_rfl
theorem Tryd.isMethodComparable (v : Value) (w : World) : (Go.method 316 130 v "Comparable").run Tryd.prog w = .ok (131, v) w := by kernel_rfl
theorem Tryd.isComp : (Tryd.prog.info? 177).map (·.comparable) = some true := by kernel_rfl
theorem Tryd.isSize : (Tryd.prog.info? 197).map (·.size) = some 1 := by kernel_rfl
theorem Tryd.noIsE (v : Value) (xT : TypeId) (w : World) : (Instr.typeAssert (.iface 177 v) xT 132 true).run Tryd.prog w = .ok (.tuple #[.nilIface, .bool false]) w := run_typeAssert_lacksB Tryd.underlying132 (by kernel_rfl) (by kernel_rfl) v xT w
theorem Tryd.noUnwrapE (v : Value) (xT : TypeId) (w : World) : (Instr.typeAssert (.iface 177 v) xT 135 true).run Tryd.prog w = .ok (.tuple #[.nilIface, .bool false]) w := run_typeAssert_lacksB Tryd.underlying135 (by kernel_rfl) (by kernel_rfl) v xT w
theorem Tryd.noUnwrapsE (v : Value) (xT : TypeId) (w : World) : (Instr.typeAssert (.iface 177 v) xT 137 true).run Tryd.prog w = .ok (.tuple #[.nilIface, .bool false]) w := run_typeAssert_lacksB Tryd.underlying137 (by kernel_rfl) (by kernel_rfl) v xT w
theorem Tryd.noIsM (v : Value) (xT : TypeId) (w : World) : (Instr.typeAssert (.iface 107 v) xT 132 true).run Tryd.prog w = .ok (.tuple #[.nilIface, .bool false]) w := run_typeAssert_lacksB Tryd.underlying132 (by kernel_rfl) (by kernel_rfl) v xT w
theorem Tryd.hasUnwrapM (v : Value) (xT : TypeId) (w : World) : (Instr.typeAssert (.iface 107 v) xT 135 true).run Tryd.prog w = .ok (.tuple #[.iface 107 v, .bool true]) w := run_typeAssert_hasB Tryd.underlying135 (by kernel_rfl) v xT w
theorem Tryd.methodUnwrapM (v : Value) (w : World) : (Go.method 316 107 v "Unwrap").run Tryd.prog w = .ok (125, v) w := by kernel_rfl

/-- The program's own error: a number, and the reason that lies behind the pointer a. -/
abbrev mis (k : Int) (a : Addr) : Value := .iface 107 (.agg #[.int .i64 k, .iface 177 (.pointer (some a))])

theorem unwrapM_any (k : Int) (a : Addr) (w : World) :
    Calls Tryd.prog 125 #[.agg #[.int .i64 k, .iface 177 (.pointer (some a))]] w fun e w' => e = .returned (.iface 177 (.pointer (some a))) ∧ Below w.heap.size w w' := by
  go_enter Tryd.func125, Tryd.ntmps125
  go_wp2
  go_ret
  exact ⟨rfl, by first | exact Below.refl _ _ | exact (Below.refl _ _).alloc (Nat.le_refl _) _⟩

/-- errors.Is(nil, x). -/
theorem is_nil (b : Addr) (w : World) :
    Calls Tryd.prog 52 #[.nilIface, .iface 177 (.pointer (some b))] w fun e w' => e = .returned (.bool false) ∧ w' = w := by
  have hn := run_eql_iface_nil_left (P := Tryd.prog) w 177 (.pointer (some b)) Tryd.underlying77
  go_enter Tryd.func52, Tryd.ntmps52
  go_wp2
  go_ret
  exact ⟨rfl, rfl⟩

set_option maxHeartbeats 1000000 in
/-- errors.Is(e, x), e the program's error that wraps x itself: one Unwrap, then equal. -/
theorem is_mis (k : Int) (b : Addr) (w : World) :
    Calls Tryd.prog 52 #[mis k b, .iface 177 (.pointer (some b))] w fun e w' => e = .returned (.bool true) ∧ Below w.heap.size w w' := by
  obtain ⟨i, hi, hcmp⟩ := Option.map_eq_some_iff.1 Tryd.isComp
  obtain ⟨j, hj, hjs⟩ := Option.map_eq_some_iff.1 Tryd.isSize
  have h8 := @run_callFunc_extern Tryd.prog 72 _ Extern.ReflectliteType.typeOf Tryd.func72 (by kernel_rfl) (by kernel_rfl) (by kernel_rfl) (by kernel_rfl)
  have h32 := @run_callFunc_extern Tryd.prog 131 _ comparableM Tryd.func131 (by kernel_rfl) (by kernel_rfl) (by kernel_rfl) (by kernel_rfl)
  have tT := Tryd.isTypeOf
  have cT := Tryd.isComparable
  have mR := Tryd.isMethodComparable
  have nE := Tryd.noIsE
  have uE := Tryd.noUnwrapE
  have vE := Tryd.noUnwrapsE
  have nW := Tryd.noIsM
  have uW := Tryd.hasUnwrapM
  have mU := Tryd.methodUnwrapM
  have heq := fun w => run_eql_iface_ptr_same (P := Tryd.prog) w b Tryd.underlying77 Tryd.underlying177 hi hcmp hj
  have hty := run_eql_iface_types (P := Tryd.prog) 107 177 (.agg #[.int .i64 k, .iface 177 (.pointer (some b))]) (.pointer (some b)) Tryd.underlying77 (by decide) w
  go_enter Tryd.func52, Tryd.ntmps52
  go_wp2
  refine wp_loop_rounds 2 ?_
  rw [rounds_succ]
  go_wp2_with (go_at_call 125; refine (unwrapM_any k b _).mono ?_; rintro e w1 ⟨rfl, hb1⟩)
  rw [rounds_succ]
  go_wp2
  go_ret
  exact ⟨rfl, hb1⟩

end Go.Proofs.YtcmeppjfjledfacDoor

/-
  When a list of entries is a log, plainly; the document's LogOk and the program's, by their contracts.
-/
set_option linter.unusedVariables false
set_option linter.unusedSimpArgs false
namespace Go.Proofs.YtcmeppjfjledfacDoor
open Go.RowKit
attribute [local go_sem ↓] Go.wp_at_zero Go.wp_at_succ

/-- Is this a Command's text? -/
def isC (x : ByteArray) : Bool := (onlyOk (rdS x.data.toList)).isSome
/-- Entry k stands right in a log. -/
def logAt (T : Nat → Int) (X : Nat → ByteArray) (k : Nat) : Bool := isC (X k) && (decide (1 ≤ T k) && (decide (T k ≤ 100000) && decide (k = 0 ∨ T (k - 1) ≤ T k)))
/-- Are these n entries a log? -/
def logB (n : Nat) (T : Nat → Int) (X : Nat → ByteArray) : Bool := decide (n ≤ 200) && (List.range n).all (logAt T X)
theorem logB_true {n : Nat} {T : Nat → Int} {X : Nat → ByteArray} (h : n ≤ 200) (ha : ∀ k, k < n → logAt T X k = true) : logB n T X = true := by
  unfold logB
  simp only [h, decide_true, Bool.true_and, List.all_eq_true, List.mem_range]
  exact ha
theorem logB_long {n : Nat} {T : Nat → Int} {X : Nat → ByteArray} (h : 200 < n) : logB n T X = false := by
  unfold logB
  rw [decide_eq_false (by omega), Bool.false_and]
theorem logB_bad {n : Nat} {T : Nat → Int} {X : Nat → ByteArray} {k : Nat} (hk : k < n) (ha : logAt T X k = false) : logB n T X = false := by
  unfold logB
  rw [Bool.and_eq_false_iff]
  right
  rw [List.all_eq_false]
  exact ⟨k, List.mem_range.2 hk, by rw [ha]; simp⟩
theorem logB_at {n : Nat} {T : Nat → Int} {X : Nat → ByteArray} (h : logB n T X = true) : n ≤ 200 ∧ ∀ k, k < n → logAt T X k = true := by
  unfold logB at h
  rw [Bool.and_eq_true, List.all_eq_true] at h
  exact ⟨of_decide_eq_true h.1, fun k hk => h.2 k (List.mem_range.2 hk)⟩
theorem logAt_mk {T : Nat → Int} {X : Nat → ByteArray} {k : Nat} (h1 : isC (X k) = true) (h2 : 1 ≤ T k) (h3 : T k ≤ 100000) (h4 : k = 0 ∨ T (k - 1) ≤ T k) : logAt T X k = true := by
  unfold logAt
  rw [h1, decide_eq_true h2, decide_eq_true h3, decide_eq_true h4]; rfl
theorem logAt_out {T : Nat → Int} {X : Nat → ByteArray} {k : Nat} (h : logAt T X k = true) : isC (X k) = true ∧ 1 ≤ T k ∧ T k ≤ 100000 ∧ (k = 0 ∨ T (k - 1) ≤ T k) := by
  unfold logAt at h
  rw [Bool.and_eq_true, Bool.and_eq_true, Bool.and_eq_true] at h
  exact ⟨h.1, of_decide_eq_true h.2.1, of_decide_eq_true h.2.2.1, of_decide_eq_true h.2.2.2⟩
theorem logAt_not {T : Nat → Int} {X : Nat → ByteArray} {k : Nat} (h : ¬ (isC (X k) = true ∧ 1 ≤ T k ∧ T k ≤ 100000 ∧ (k = 0 ∨ T (k - 1) ≤ T k))) : logAt T X k = false := by
  cases e : logAt T X k
  · rfl
  · exact absurd (logAt_out e) h

theorem l10Entry_any (t : Int) (x : ByteArray) (hx : x.size ≤ 1048576) (w : World) :
    Calls Tryd.prog 58 #[.agg #[.int .i64 t, .string x]] w fun e w' => e = .returned (.bool (isC x && inB t 1 100000)) ∧ Below w.heap.size w w' := by
  have hR := fun W => specRead_any x hx W
  unfold isC
  generalize onlyOk (rdS x.data.toList) = R at hR ⊢
  have HR : Hid (∀ W, Calls Tryd.prog 13 #[.string x] W fun e w' => CAns W w' e R) := hR
  clear hR
  go_enter Tryd.func58, Tryd.ntmps58
  go_wp2_with fail
  refine (HR.out _).mono ?_
  rintro e w1 ⟨ao, cap, rfl, _, hb⟩
  have c0 : w1.cell? ⟨w.heap.size, 0, none⟩ = some (.int .i64 t) := by rw [hb.cell (by simp)]; simp [go_sem]
  have hA : Below w.heap.size w w1 := ((Below.refl _ _).alloc (Nat.le_refl _) _).trans (hb.mono (by simp))
  clear hb
  have hA2 := fun o => hA.alloc hA.size o
  have c0' : ∀ o, (w1.alloc o).cell? ⟨w.heap.size, 0, none⟩ = some (.int .i64 t) := fun o => by rw [((Below.refl w1.heap.size w1).alloc (Nat.le_refl _) o).cell (lt_of_cell c0)]; exact c0
  clear c0
  cases hb2 : R.isSome
  · go_wp2
    go_ret
    exact ⟨by rw [hb2]; simp, hA2 _⟩
  · go_wp2_with (go_at_call 35; refine (l1In_any _ _ _ _).mono ?_; rintro e w2 ⟨rfl, hq⟩; have hq' := hq.symm; subst hq'; clear hq)
    go_ret
    exact ⟨by rw [hb2]; simp, hA2 _⟩

set_option maxHeartbeats 1000000 in
theorem specLogOk_any (ao : Option Addr) (n cap : Nat) (T : Nat → Int) (X : Nat → ByteArray) (hn : n ≤ 9223372036854775807) (hX : ∀ k, k < n → (X k).size ≤ 1048576) (w : World) (hr : NRow w ao n T X) :
    Calls Tryd.prog 28 #[.slice ao n cap] w fun e w' => e = .returned (.bool (logB n T X)) ∧ Below w.heap.size w w' := by
  by_cases h200 : 200 < n
  · rw [logB_long h200]
    have h2' : (200 : Int) < (n : Int) := by omega
    go_enter Tryd.func28, Tryd.ntmps28
    go_wp2
    go_ret
    exact ⟨rfl, Below.refl _ _⟩
  have h2' : ¬ (200 : Int) < (n : Int) := by omega
  have HB : Hid ((∀ k, k < n → logAt T X k = true) → logB n T X = true) := fun h => logB_true (by omega) h
  have HN : Hid (∀ k, k < n → logAt T X k = false → logB n T X = false) := fun k h1 h2 => logB_bad h1 h2
  generalize logB n T X = B at HB HN ⊢
  go_enter Tryd.func28, Tryd.ntmps28
  go_wp2
  go_loopw [3] (fun i wr => ∃ k : Nat, k ≤ n ∧ i = .int .i64 k ∧ (∀ j, j < k → logAt T X j = true) ∧ Below w.heap.size w wr) (fun i _ => n - (intOf i).toNat)
  case atStart => exact ⟨0, Nat.zero_le _, rfl, fun j hj => by omega, Below.refl _ _⟩
  case round =>
    obtain ⟨k, hk, rfl, hat, hbel⟩ := hrel
    by_cases hlt : k < n
    rotate_left
    · have hkn : k = n := by omega
      subst hkn
      go_wp2
      go_ret
      exact ⟨by rw [HB.out hat]; rfl, hbel⟩
    obtain ⟨b, o, hao, c0, c1⟩ := (hr.below hbel (Nat.le_refl _)) k hlt
    subst hao
    have hk1 : (0 : Int) ≤ (k : Int) := by omega
    have hk2 : (k : Int) < (n : Int) := by omega
    -- ROUND
    have hEn := fun W => l10Entry_any (T k) (X k) (hX k hlt) W
    obtain ⟨g, hg⟩ : ∃ g, (isC (X k) && inB (T k) 1 100000) = g := ⟨_, rfl⟩
    rw [hg] at hEn
    cases g
    · have HE : ∀ W, Calls Tryd.prog 58 #[.agg #[.int .i64 (T k), .string (X k)]] W fun e w' => e = .returned (.bool false) ∧ Below W.heap.size W w' := hEn
      have hno : logAt T X k = false := logAt_not (fun h => by simp [inB, h.1, h.2.1, h.2.2.1] at hg)
      clear hEn hg
      go_wp2_with fail
      have hS : (fun w' => w'.cell? ⟨b, o + k * 2, none⟩ = some (.int .i64 (T k)) ∧ w'.cell? ⟨b, o + k * 2 + 1, none⟩ = some (.string (X k))) wr.drew := ⟨c0, c1⟩
      refine wp_region_held_drew (S := fun w' => w'.cell? ⟨b, o + k * 2, none⟩ = some (.int .i64 (T k)) ∧ w'.cell? ⟨b, o + k * 2 + 1, none⟩ = some (.string (X k))) (by kernel_rfl) hS (fun hS => ?_)
      refine takeH 0 (some 13) (.slice (some ⟨b, o, none⟩) n cap) rfl rfl (by kernel_rfl) (by kernel_rfl) (by kernel_rfl) (fun _ _ _ h => h) (by rfl) hS (fun w hSw => by go_split_ands; go_simp <;> first | omega | (rw [IntKind.wrap_i64]; omega) | (intro h; exfalso; omega)) ?_
      simp only [Act.put, List.setIfInBounds_toArray, List.set_cons_zero, List.set_cons_succ]
      refine takeH 1 (some 14) (.int .i64 (k : Int)) rfl rfl (by kernel_rfl) (by kernel_rfl) (by kernel_rfl) (fun _ _ _ h => h) (by rfl) hS (fun w hSw => by go_split_ands; go_simp <;> first | omega | (rw [IntKind.wrap_i64]; omega) | (intro h; exfalso; omega)) ?_
      simp only [Act.put, List.setIfInBounds_toArray, List.set_cons_zero, List.set_cons_succ]
      refine takeH 2 (some 15) (.pointer (some ⟨b, o + k * 2, none⟩)) rfl rfl (by kernel_rfl) (by kernel_rfl) (by kernel_rfl) (fun _ _ _ h => h) (by rfl) hS (fun w hSw => by go_split_ands; go_simp <;> first | omega | (rw [IntKind.wrap_i64]; omega) | (intro h; exfalso; omega)) ?_
      simp only [Act.put, List.setIfInBounds_toArray, List.set_cons_zero, List.set_cons_succ]
      refine takeH 3 (some 16) (.agg #[.int .i64 (T k), .string (X k)]) rfl rfl (by kernel_rfl) (by kernel_rfl) (by kernel_rfl) (fun _ _ _ h => h) (by rfl) hS (fun w hSw => by go_split_ands; go_simp <;> first | omega | (rw [IntKind.wrap_i64]; omega) | (intro h; exfalso; omega)) ?_
      simp only [Act.put, List.setIfInBounds_toArray, List.set_cons_zero, List.set_cons_succ]
      refine step1H 4 _ rfl (by kernel_rfl) (by rfl) ?_
      go_simp
      refine (HE _).mono ?_
      rintro e w1 ⟨rfl, hb1⟩
      have hS1 : (fun w' => w'.cell? ⟨b, o + k * 2, none⟩ = some (.int .i64 (T k)) ∧ w'.cell? ⟨b, o + k * 2 + 1, none⟩ = some (.string (X k))) w1 := ⟨keep_cell hb1 (Nat.le_refl _) hS.1, keep_cell hb1 (Nat.le_refl _) hS.2⟩
      refine ⟨hS1, ?_⟩
      refine takeH 5 (some 18) (.bool true) rfl rfl (by kernel_rfl) (by kernel_rfl) (by kernel_rfl) (fun _ _ _ h => h) (by rfl) hS1 (fun w hSw => by go_split_ands; go_simp <;> first | omega | (rw [IntKind.wrap_i64]; omega) | (intro h; exfalso; omega)) ?_
      simp only [Act.put, List.setIfInBounds_toArray, List.set_cons_zero, List.set_cons_succ]
      refine takeH 6 (some 19) (.bool true) rfl rfl (by kernel_rfl) (by kernel_rfl) (by kernel_rfl) (fun _ _ _ h => h) (by rfl) hS1 (fun w hSw => by go_split_ands; go_simp <;> first | omega | (rw [IntKind.wrap_i64]; omega) | (intro h; exfalso; omega)) ?_
      simp only [Act.put, List.setIfInBounds_toArray, List.set_cons_zero, List.set_cons_succ]
      refine skipH 7 (some 20) rfl rfl (by kernel_rfl) (by kernel_rfl) (by kernel_rfl) (fun _ _ _ h => h) (by rfl) hS1 ?_
      simp only [Act.put, List.setIfInBounds_toArray, List.set_cons_zero, List.set_cons_succ]
      refine skipH 8 (some 21) rfl rfl (by kernel_rfl) (by kernel_rfl) (by kernel_rfl) (fun _ _ _ h => h) (by rfl) hS1 ?_
      simp only [Act.put, List.setIfInBounds_toArray, List.set_cons_zero, List.set_cons_succ]
      refine skipH 9 (some 22) rfl rfl (by kernel_rfl) (by kernel_rfl) (by kernel_rfl) (fun _ _ _ h => h) (by rfl) hS1 ?_
      simp only [Act.put, List.setIfInBounds_toArray, List.set_cons_zero, List.set_cons_succ]
      refine skipH 10 (some 23) rfl rfl (by kernel_rfl) (by kernel_rfl) (by kernel_rfl) (fun _ _ _ h => h) (by rfl) hS1 ?_
      simp only [Act.put, List.setIfInBounds_toArray, List.set_cons_zero, List.set_cons_succ]
      refine skipH 11 (some 24) rfl rfl (by kernel_rfl) (by kernel_rfl) (by kernel_rfl) (fun _ _ _ h => h) (by rfl) hS1 ?_
      simp only [Act.put, List.setIfInBounds_toArray, List.set_cons_zero, List.set_cons_succ]
      refine skipH 12 (some 25) rfl rfl (by kernel_rfl) (by kernel_rfl) (by kernel_rfl) (fun _ _ _ h => h) (by rfl) hS1 ?_
      simp only [Act.put, List.setIfInBounds_toArray, List.set_cons_zero, List.set_cons_succ]
      refine skipH 13 (some 26) rfl rfl (by kernel_rfl) (by kernel_rfl) (by kernel_rfl) (fun _ _ _ h => h) (by rfl) hS1 ?_
      simp only [Act.put, List.setIfInBounds_toArray, List.set_cons_zero, List.set_cons_succ]
      refine skipH 14 (some 27) rfl rfl (by kernel_rfl) (by kernel_rfl) (by kernel_rfl) (fun _ _ _ h => h) (by rfl) hS1 ?_
      simp only [Act.put, List.setIfInBounds_toArray, List.set_cons_zero, List.set_cons_succ]
      refine skipH 15 (some 28) rfl rfl (by kernel_rfl) (by kernel_rfl) (by kernel_rfl) (fun _ _ _ h => h) (by rfl) hS1 ?_
      simp only [Act.put, List.setIfInBounds_toArray, List.set_cons_zero, List.set_cons_succ]
      refine skipH 16 (some 29) rfl rfl (by kernel_rfl) (by kernel_rfl) (by kernel_rfl) (fun _ _ _ h => h) (by rfl) hS1 ?_
      simp only [Act.put, List.setIfInBounds_toArray, List.set_cons_zero, List.set_cons_succ]
      refine skipH 17 (some 30) rfl rfl (by kernel_rfl) (by kernel_rfl) (by kernel_rfl) (fun _ _ _ h => h) (by rfl) hS1 ?_
      simp only [Act.put, List.setIfInBounds_toArray, List.set_cons_zero, List.set_cons_succ]
      refine skipH 18 (some 31) rfl rfl (by kernel_rfl) (by kernel_rfl) (by kernel_rfl) (fun _ _ _ h => h) (by rfl) hS1 ?_
      simp only [Act.put, List.setIfInBounds_toArray, List.set_cons_zero, List.set_cons_succ]
      refine skipH 19 (some 32) rfl rfl (by kernel_rfl) (by kernel_rfl) (by kernel_rfl) (fun _ _ _ h => h) (by rfl) hS1 ?_
      simp only [Act.put, List.setIfInBounds_toArray, List.set_cons_zero, List.set_cons_succ]
      refine skipH 20 (some 33) rfl rfl (by kernel_rfl) (by kernel_rfl) (by kernel_rfl) (fun _ _ _ h => h) (by rfl) hS1 ?_
      simp only [Act.put, List.setIfInBounds_toArray, List.set_cons_zero, List.set_cons_succ]
      refine skipH 21 (some 34) rfl rfl (by kernel_rfl) (by kernel_rfl) (by kernel_rfl) (fun _ _ _ h => h) (by rfl) hS1 ?_
      simp only [Act.put, List.setIfInBounds_toArray, List.set_cons_zero, List.set_cons_succ]
      refine skipH 22 (some 35) rfl rfl (by kernel_rfl) (by kernel_rfl) (by kernel_rfl) (fun _ _ _ h => h) (by rfl) hS1 ?_
      simp only [Act.put, List.setIfInBounds_toArray, List.set_cons_zero, List.set_cons_succ]
      refine takeH 23 (some 36) (.bool true) rfl rfl (by kernel_rfl) (by kernel_rfl) (by kernel_rfl) (fun _ _ _ h => h) (by rfl) hS1 (fun w hSw => by go_split_ands; go_simp <;> first | omega | (rw [IntKind.wrap_i64]; omega) | (intro h; exfalso; omega)) ?_
      simp only [Act.put, List.setIfInBounds_toArray, List.set_cons_zero, List.set_cons_succ]
      refine wpAnyH_done (by kernel_rfl) ?_ _
      go_wp2
      go_ret
      exact ⟨by rw [HN.out k hlt hno]; rfl, below_next hbel.drew (Nat.le_refl _) hb1⟩
    have HE : ∀ W, Calls Tryd.prog 58 #[.agg #[.int .i64 (T k), .string (X k)]] W fun e w' => e = .returned (.bool true) ∧ Below W.heap.size W w' := hEn
    have hyes : isC (X k) = true ∧ 1 ≤ T k ∧ T k ≤ 100000 := by
      simp only [inB, Bool.and_eq_true, decide_eq_true_eq] at hg
      exact ⟨hg.1, hg.2.1, hg.2.2⟩
    clear hEn hg
    by_cases h0 : k = 0
    · have hyes' : logAt T X k = true := logAt_mk hyes.1 hyes.2.1 hyes.2.2 (Or.inl h0)
      have hk3 : ¬ (0 : Int) < (k : Int) := by omega
      clear h0
      go_wp2_with fail
      have hS : (fun w' => w'.cell? ⟨b, o + k * 2, none⟩ = some (.int .i64 (T k)) ∧ w'.cell? ⟨b, o + k * 2 + 1, none⟩ = some (.string (X k))) wr.drew := ⟨c0, c1⟩
      refine wp_region_held_drew (S := fun w' => w'.cell? ⟨b, o + k * 2, none⟩ = some (.int .i64 (T k)) ∧ w'.cell? ⟨b, o + k * 2 + 1, none⟩ = some (.string (X k))) (by kernel_rfl) hS (fun hS => ?_)
      refine takeH 0 (some 13) (.slice (some ⟨b, o, none⟩) n cap) rfl rfl (by kernel_rfl) (by kernel_rfl) (by kernel_rfl) (fun _ _ _ h => h) (by rfl) hS (fun w hSw => by go_split_ands; go_simp <;> first | omega | (rw [IntKind.wrap_i64]; omega) | (intro h; exfalso; omega)) ?_
      simp only [Act.put, List.setIfInBounds_toArray, List.set_cons_zero, List.set_cons_succ]
      refine takeH 1 (some 14) (.int .i64 (k : Int)) rfl rfl (by kernel_rfl) (by kernel_rfl) (by kernel_rfl) (fun _ _ _ h => h) (by rfl) hS (fun w hSw => by go_split_ands; go_simp <;> first | omega | (rw [IntKind.wrap_i64]; omega) | (intro h; exfalso; omega)) ?_
      simp only [Act.put, List.setIfInBounds_toArray, List.set_cons_zero, List.set_cons_succ]
      refine takeH 2 (some 15) (.pointer (some ⟨b, o + k * 2, none⟩)) rfl rfl (by kernel_rfl) (by kernel_rfl) (by kernel_rfl) (fun _ _ _ h => h) (by rfl) hS (fun w hSw => by go_split_ands; go_simp <;> first | omega | (rw [IntKind.wrap_i64]; omega) | (intro h; exfalso; omega)) ?_
      simp only [Act.put, List.setIfInBounds_toArray, List.set_cons_zero, List.set_cons_succ]
      refine takeH 3 (some 16) (.agg #[.int .i64 (T k), .string (X k)]) rfl rfl (by kernel_rfl) (by kernel_rfl) (by kernel_rfl) (fun _ _ _ h => h) (by rfl) hS (fun w hSw => by go_split_ands; go_simp <;> first | omega | (rw [IntKind.wrap_i64]; omega) | (intro h; exfalso; omega)) ?_
      simp only [Act.put, List.setIfInBounds_toArray, List.set_cons_zero, List.set_cons_succ]
      refine step1H 4 _ rfl (by kernel_rfl) (by rfl) ?_
      go_simp
      refine (HE _).mono ?_
      rintro e w1 ⟨rfl, hb1⟩
      have hS1 : (fun w' => w'.cell? ⟨b, o + k * 2, none⟩ = some (.int .i64 (T k)) ∧ w'.cell? ⟨b, o + k * 2 + 1, none⟩ = some (.string (X k))) w1 := ⟨keep_cell hb1 (Nat.le_refl _) hS.1, keep_cell hb1 (Nat.le_refl _) hS.2⟩
      refine ⟨hS1, ?_⟩
      refine takeH 5 (some 18) (.bool false) rfl rfl (by kernel_rfl) (by kernel_rfl) (by kernel_rfl) (fun _ _ _ h => h) (by rfl) hS1 (fun w hSw => by go_split_ands; go_simp <;> first | omega | (rw [IntKind.wrap_i64]; omega) | (intro h; exfalso; omega)) ?_
      simp only [Act.put, List.setIfInBounds_toArray, List.set_cons_zero, List.set_cons_succ]
      refine takeH 6 (some 19) (.bool false) rfl rfl (by kernel_rfl) (by kernel_rfl) (by kernel_rfl) (fun _ _ _ h => h) (by rfl) hS1 (fun w hSw => by go_split_ands; go_simp <;> first | omega | (rw [IntKind.wrap_i64]; omega) | (intro h; exfalso; omega)) ?_
      simp only [Act.put, List.setIfInBounds_toArray, List.set_cons_zero, List.set_cons_succ]
      refine takeH 7 (some 20) (.int .i64 (k : Int)) rfl rfl (by kernel_rfl) (by kernel_rfl) (by kernel_rfl) (fun _ _ _ h => h) (by rfl) hS1 (fun w hSw => by go_split_ands; go_simp <;> first | omega | (rw [IntKind.wrap_i64]; omega) | (intro h; exfalso; omega)) ?_
      simp only [Act.put, List.setIfInBounds_toArray, List.set_cons_zero, List.set_cons_succ]
      refine takeH 8 (some 21) (.bool false) rfl rfl (by kernel_rfl) (by kernel_rfl) (by kernel_rfl) (fun _ _ _ h => h) (by rfl) hS1 (fun w hSw => by go_split_ands; go_simp <;> first | omega | (rw [IntKind.wrap_i64]; omega) | (intro h; exfalso; omega)) ?_
      simp only [Act.put, List.setIfInBounds_toArray, List.set_cons_zero, List.set_cons_succ]
      refine takeH 9 (some 22) (.bool false) rfl rfl (by kernel_rfl) (by kernel_rfl) (by kernel_rfl) (fun _ _ _ h => h) (by rfl) hS1 (fun w hSw => by go_split_ands; go_simp <;> first | omega | (rw [IntKind.wrap_i64]; omega) | (intro h; exfalso; omega)) ?_
      simp only [Act.put, List.setIfInBounds_toArray, List.set_cons_zero, List.set_cons_succ]
      refine skipH 10 (some 23) rfl rfl (by kernel_rfl) (by kernel_rfl) (by kernel_rfl) (fun _ _ _ h => h) (by rfl) hS1 ?_
      simp only [Act.put, List.setIfInBounds_toArray, List.set_cons_zero, List.set_cons_succ]
      refine skipH 11 (some 24) rfl rfl (by kernel_rfl) (by kernel_rfl) (by kernel_rfl) (fun _ _ _ h => h) (by rfl) hS1 ?_
      simp only [Act.put, List.setIfInBounds_toArray, List.set_cons_zero, List.set_cons_succ]
      refine skipH 12 (some 25) rfl rfl (by kernel_rfl) (by kernel_rfl) (by kernel_rfl) (fun _ _ _ h => h) (by rfl) hS1 ?_
      simp only [Act.put, List.setIfInBounds_toArray, List.set_cons_zero, List.set_cons_succ]
      refine skipH 13 (some 26) rfl rfl (by kernel_rfl) (by kernel_rfl) (by kernel_rfl) (fun _ _ _ h => h) (by rfl) hS1 ?_
      simp only [Act.put, List.setIfInBounds_toArray, List.set_cons_zero, List.set_cons_succ]
      refine skipH 14 (some 27) rfl rfl (by kernel_rfl) (by kernel_rfl) (by kernel_rfl) (fun _ _ _ h => h) (by rfl) hS1 ?_
      simp only [Act.put, List.setIfInBounds_toArray, List.set_cons_zero, List.set_cons_succ]
      refine skipH 15 (some 28) rfl rfl (by kernel_rfl) (by kernel_rfl) (by kernel_rfl) (fun _ _ _ h => h) (by rfl) hS1 ?_
      simp only [Act.put, List.setIfInBounds_toArray, List.set_cons_zero, List.set_cons_succ]
      refine skipH 16 (some 29) rfl rfl (by kernel_rfl) (by kernel_rfl) (by kernel_rfl) (fun _ _ _ h => h) (by rfl) hS1 ?_
      simp only [Act.put, List.setIfInBounds_toArray, List.set_cons_zero, List.set_cons_succ]
      refine skipH 17 (some 30) rfl rfl (by kernel_rfl) (by kernel_rfl) (by kernel_rfl) (fun _ _ _ h => h) (by rfl) hS1 ?_
      simp only [Act.put, List.setIfInBounds_toArray, List.set_cons_zero, List.set_cons_succ]
      refine skipH 18 (some 31) rfl rfl (by kernel_rfl) (by kernel_rfl) (by kernel_rfl) (fun _ _ _ h => h) (by rfl) hS1 ?_
      simp only [Act.put, List.setIfInBounds_toArray, List.set_cons_zero, List.set_cons_succ]
      refine skipH 19 (some 32) rfl rfl (by kernel_rfl) (by kernel_rfl) (by kernel_rfl) (fun _ _ _ h => h) (by rfl) hS1 ?_
      simp only [Act.put, List.setIfInBounds_toArray, List.set_cons_zero, List.set_cons_succ]
      refine skipH 20 (some 33) rfl rfl (by kernel_rfl) (by kernel_rfl) (by kernel_rfl) (fun _ _ _ h => h) (by rfl) hS1 ?_
      simp only [Act.put, List.setIfInBounds_toArray, List.set_cons_zero, List.set_cons_succ]
      refine skipH 21 (some 34) rfl rfl (by kernel_rfl) (by kernel_rfl) (by kernel_rfl) (fun _ _ _ h => h) (by rfl) hS1 ?_
      simp only [Act.put, List.setIfInBounds_toArray, List.set_cons_zero, List.set_cons_succ]
      refine takeH 22 (some 35) (.bool false) rfl rfl (by kernel_rfl) (by kernel_rfl) (by kernel_rfl) (fun _ _ _ h => h) (by rfl) hS1 (fun w hSw => by go_split_ands; go_simp <;> first | omega | (rw [IntKind.wrap_i64]; omega) | (intro h; exfalso; omega)) ?_
      simp only [Act.put, List.setIfInBounds_toArray, List.set_cons_zero, List.set_cons_succ]
      refine takeH 23 (some 36) (.bool false) rfl rfl (by kernel_rfl) (by kernel_rfl) (by kernel_rfl) (fun _ _ _ h => h) (by rfl) hS1 (fun w hSw => by go_split_ands; go_simp <;> first | omega | (rw [IntKind.wrap_i64]; omega) | (intro h; exfalso; omega)) ?_
      simp only [Act.put, List.setIfInBounds_toArray, List.set_cons_zero, List.set_cons_succ]
      refine wpAnyH_done (by kernel_rfl) ?_ _
      go_wp2
      go_roundw
      case rel =>
        refine ⟨k + 1, by omega, by go_num, fun j hj => ?_, below_next hbel.drew (Nat.le_refl _) hb1⟩
        by_cases e : j = k
        · subst e; exact hyes'
        · exact hat j (by omega)
      case measure => simp [intOf]; omega
    have hk3 : (0 : Int) < (k : Int) := by omega
    have hk4 : (0 : Int) ≤ (k : Int) - 1 := by omega
    have hk5 : (k : Int) - 1 < (n : Int) := by omega
    have hk6 : ((k : Int) - 1).toNat = k - 1 := by omega
    obtain ⟨b', o', hao', d0, d1⟩ := (hr.below hbel (Nat.le_refl _)) (k - 1) (by omega)
    simp only [Option.some.injEq, Addr.mk.injEq, and_true] at hao'
    obtain ⟨rfl, rfl⟩ := hao'
    by_cases hT : T k < T (k - 1)
    · have hno : logAt T X k = false := logAt_not (fun h => by omega)
      go_wp2_with fail
      have hS : (fun w' => w'.cell? ⟨b, o + k * 2, none⟩ = some (.int .i64 (T k)) ∧ w'.cell? ⟨b, o + k * 2 + 1, none⟩ = some (.string (X k)) ∧ w'.cell? ⟨b, o + (k - 1) * 2, none⟩ = some (.int .i64 (T (k - 1)))) wr.drew := ⟨c0, c1, d0⟩
      refine wp_region_held_drew (S := fun w' => w'.cell? ⟨b, o + k * 2, none⟩ = some (.int .i64 (T k)) ∧ w'.cell? ⟨b, o + k * 2 + 1, none⟩ = some (.string (X k)) ∧ w'.cell? ⟨b, o + (k - 1) * 2, none⟩ = some (.int .i64 (T (k - 1)))) (by kernel_rfl) hS (fun hS => ?_)
      refine takeH 0 (some 13) (.slice (some ⟨b, o, none⟩) n cap) rfl rfl (by kernel_rfl) (by kernel_rfl) (by kernel_rfl) (fun _ _ _ h => h) (by rfl) hS (fun w hSw => by go_split_ands; go_simp <;> first | omega | (rw [IntKind.wrap_i64]; omega) | (intro h; exfalso; omega)) ?_
      simp only [Act.put, List.setIfInBounds_toArray, List.set_cons_zero, List.set_cons_succ]
      refine takeH 1 (some 14) (.int .i64 (k : Int)) rfl rfl (by kernel_rfl) (by kernel_rfl) (by kernel_rfl) (fun _ _ _ h => h) (by rfl) hS (fun w hSw => by go_split_ands; go_simp <;> first | omega | (rw [IntKind.wrap_i64]; omega) | (intro h; exfalso; omega)) ?_
      simp only [Act.put, List.setIfInBounds_toArray, List.set_cons_zero, List.set_cons_succ]
      refine takeH 2 (some 15) (.pointer (some ⟨b, o + k * 2, none⟩)) rfl rfl (by kernel_rfl) (by kernel_rfl) (by kernel_rfl) (fun _ _ _ h => h) (by rfl) hS (fun w hSw => by go_split_ands; go_simp <;> first | omega | (rw [IntKind.wrap_i64]; omega) | (intro h; exfalso; omega)) ?_
      simp only [Act.put, List.setIfInBounds_toArray, List.set_cons_zero, List.set_cons_succ]
      refine takeH 3 (some 16) (.agg #[.int .i64 (T k), .string (X k)]) rfl rfl (by kernel_rfl) (by kernel_rfl) (by kernel_rfl) (fun _ _ _ h => h) (by rfl) hS (fun w hSw => by go_split_ands; go_simp <;> first | omega | (rw [IntKind.wrap_i64]; omega) | (intro h; exfalso; omega)) ?_
      simp only [Act.put, List.setIfInBounds_toArray, List.set_cons_zero, List.set_cons_succ]
      refine step1H 4 _ rfl (by kernel_rfl) (by rfl) ?_
      go_simp
      refine (HE _).mono ?_
      rintro e w1 ⟨rfl, hb1⟩
      have hS1 : (fun w' => w'.cell? ⟨b, o + k * 2, none⟩ = some (.int .i64 (T k)) ∧ w'.cell? ⟨b, o + k * 2 + 1, none⟩ = some (.string (X k)) ∧ w'.cell? ⟨b, o + (k - 1) * 2, none⟩ = some (.int .i64 (T (k - 1)))) w1 := ⟨keep_cell hb1 (Nat.le_refl _) hS.1, keep_cell hb1 (Nat.le_refl _) hS.2.1, keep_cell hb1 (Nat.le_refl _) hS.2.2⟩
      refine ⟨hS1, ?_⟩
      refine takeH 5 (some 18) (.bool false) rfl rfl (by kernel_rfl) (by kernel_rfl) (by kernel_rfl) (fun _ _ _ h => h) (by rfl) hS1 (fun w hSw => by go_split_ands; go_simp <;> first | omega | (rw [IntKind.wrap_i64]; omega) | (intro h; exfalso; omega)) ?_
      simp only [Act.put, List.setIfInBounds_toArray, List.set_cons_zero, List.set_cons_succ]
      refine takeH 6 (some 19) (.bool false) rfl rfl (by kernel_rfl) (by kernel_rfl) (by kernel_rfl) (fun _ _ _ h => h) (by rfl) hS1 (fun w hSw => by go_split_ands; go_simp <;> first | omega | (rw [IntKind.wrap_i64]; omega) | (intro h; exfalso; omega)) ?_
      simp only [Act.put, List.setIfInBounds_toArray, List.set_cons_zero, List.set_cons_succ]
      refine takeH 7 (some 20) (.int .i64 (k : Int)) rfl rfl (by kernel_rfl) (by kernel_rfl) (by kernel_rfl) (fun _ _ _ h => h) (by rfl) hS1 (fun w hSw => by go_split_ands; go_simp <;> first | omega | (rw [IntKind.wrap_i64]; omega) | (intro h; exfalso; omega)) ?_
      simp only [Act.put, List.setIfInBounds_toArray, List.set_cons_zero, List.set_cons_succ]
      refine takeH 8 (some 21) (.bool true) rfl rfl (by kernel_rfl) (by kernel_rfl) (by kernel_rfl) (fun _ _ _ h => h) (by rfl) hS1 (fun w hSw => by go_split_ands; go_simp <;> first | omega | (rw [IntKind.wrap_i64]; omega) | (intro h; exfalso; omega)) ?_
      simp only [Act.put, List.setIfInBounds_toArray, List.set_cons_zero, List.set_cons_succ]
      refine takeH 9 (some 22) (.bool true) rfl rfl (by kernel_rfl) (by kernel_rfl) (by kernel_rfl) (fun _ _ _ h => h) (by rfl) hS1 (fun w hSw => by go_split_ands; go_simp <;> first | omega | (rw [IntKind.wrap_i64]; omega) | (intro h; exfalso; omega)) ?_
      simp only [Act.put, List.setIfInBounds_toArray, List.set_cons_zero, List.set_cons_succ]
      refine takeH 10 (some 23) (.slice (some ⟨b, o, none⟩) n cap) rfl rfl (by kernel_rfl) (by kernel_rfl) (by kernel_rfl) (fun _ _ _ h => h) (by rfl) hS1 (fun w hSw => by go_split_ands; go_simp <;> first | omega | (rw [IntKind.wrap_i64]; omega) | (intro h; exfalso; omega)) ?_
      simp only [Act.put, List.setIfInBounds_toArray, List.set_cons_zero, List.set_cons_succ]
      refine takeH 11 (some 24) (.int .i64 (k : Int)) rfl rfl (by kernel_rfl) (by kernel_rfl) (by kernel_rfl) (fun _ _ _ h => h) (by rfl) hS1 (fun w hSw => by go_split_ands; go_simp <;> first | omega | (rw [IntKind.wrap_i64]; omega) | (intro h; exfalso; omega)) ?_
      simp only [Act.put, List.setIfInBounds_toArray, List.set_cons_zero, List.set_cons_succ]
      refine takeH 12 (some 25) (.pointer (some ⟨b, o + k * 2, none⟩)) rfl rfl (by kernel_rfl) (by kernel_rfl) (by kernel_rfl) (fun _ _ _ h => h) (by rfl) hS1 (fun w hSw => by go_split_ands; go_simp <;> first | omega | (rw [IntKind.wrap_i64]; omega) | (intro h; exfalso; omega)) ?_
      simp only [Act.put, List.setIfInBounds_toArray, List.set_cons_zero, List.set_cons_succ]
      refine takeH 13 (some 26) (.pointer (some ⟨b, o + k * 2, none⟩)) rfl rfl (by kernel_rfl) (by kernel_rfl) (by kernel_rfl) (fun _ _ _ h => h) (by rfl) hS1 (fun w hSw => by go_split_ands; go_simp <;> first | omega | (rw [IntKind.wrap_i64]; omega) | (intro h; exfalso; omega)) ?_
      simp only [Act.put, List.setIfInBounds_toArray, List.set_cons_zero, List.set_cons_succ]
      refine takeH 14 (some 27) (.int .i64 (T k)) rfl rfl (by kernel_rfl) (by kernel_rfl) (by kernel_rfl) (fun _ _ _ h => h) (by rfl) hS1 (fun w hSw => by go_split_ands; go_simp <;> first | omega | (rw [IntKind.wrap_i64]; omega) | (intro h; exfalso; omega)) ?_
      simp only [Act.put, List.setIfInBounds_toArray, List.set_cons_zero, List.set_cons_succ]
      refine takeH 15 (some 28) (.slice (some ⟨b, o, none⟩) n cap) rfl rfl (by kernel_rfl) (by kernel_rfl) (by kernel_rfl) (fun _ _ _ h => h) (by rfl) hS1 (fun w hSw => by go_split_ands; go_simp <;> first | omega | (rw [IntKind.wrap_i64]; omega) | (intro h; exfalso; omega)) ?_
      simp only [Act.put, List.setIfInBounds_toArray, List.set_cons_zero, List.set_cons_succ]
      refine takeH 16 (some 29) (.int .i64 (k : Int)) rfl rfl (by kernel_rfl) (by kernel_rfl) (by kernel_rfl) (fun _ _ _ h => h) (by rfl) hS1 (fun w hSw => by go_split_ands; go_simp <;> first | omega | (rw [IntKind.wrap_i64]; omega) | (intro h; exfalso; omega)) ?_
      simp only [Act.put, List.setIfInBounds_toArray, List.set_cons_zero, List.set_cons_succ]
      refine takeH 17 (some 30) (.int .i64 ((k : Int) - 1)) rfl rfl (by kernel_rfl) (by kernel_rfl) (by kernel_rfl) (fun _ _ _ h => h) (by rfl) hS1 (fun w hSw => by go_split_ands; go_simp <;> first | omega | (rw [IntKind.wrap_i64]; omega) | (intro h; exfalso; omega)) ?_
      simp only [Act.put, List.setIfInBounds_toArray, List.set_cons_zero, List.set_cons_succ]
      refine takeH 18 (some 31) (.pointer (some ⟨b, o + (k - 1) * 2, none⟩)) rfl rfl (by kernel_rfl) (by kernel_rfl) (by kernel_rfl) (fun _ _ _ h => h) (by rfl) hS1 (fun w hSw => by go_split_ands; go_simp <;> first | omega | (rw [IntKind.wrap_i64]; omega) | (intro h; exfalso; omega)) ?_
      simp only [Act.put, List.setIfInBounds_toArray, List.set_cons_zero, List.set_cons_succ]
      refine takeH 19 (some 32) (.pointer (some ⟨b, o + (k - 1) * 2, none⟩)) rfl rfl (by kernel_rfl) (by kernel_rfl) (by kernel_rfl) (fun _ _ _ h => h) (by rfl) hS1 (fun w hSw => by go_split_ands; go_simp <;> first | omega | (rw [IntKind.wrap_i64]; omega) | (intro h; exfalso; omega)) ?_
      simp only [Act.put, List.setIfInBounds_toArray, List.set_cons_zero, List.set_cons_succ]
      refine takeH 20 (some 33) (.int .i64 (T (k - 1))) rfl rfl (by kernel_rfl) (by kernel_rfl) (by kernel_rfl) (fun _ _ _ h => h) (by rfl) hS1 (fun w hSw => by go_split_ands; go_simp <;> first | omega | (rw [IntKind.wrap_i64]; omega) | (intro h; exfalso; omega)) ?_
      simp only [Act.put, List.setIfInBounds_toArray, List.set_cons_zero, List.set_cons_succ]
      refine takeH 21 (some 34) (.bool true) rfl rfl (by kernel_rfl) (by kernel_rfl) (by kernel_rfl) (fun _ _ _ h => h) (by rfl) hS1 (fun w hSw => by go_split_ands; go_simp <;> first | omega | (rw [IntKind.wrap_i64]; omega) | (intro h; exfalso; omega)) ?_
      simp only [Act.put, List.setIfInBounds_toArray, List.set_cons_zero, List.set_cons_succ]
      refine takeH 22 (some 35) (.bool true) rfl rfl (by kernel_rfl) (by kernel_rfl) (by kernel_rfl) (fun _ _ _ h => h) (by rfl) hS1 (fun w hSw => by go_split_ands; go_simp <;> first | omega | (rw [IntKind.wrap_i64]; omega) | (intro h; exfalso; omega)) ?_
      simp only [Act.put, List.setIfInBounds_toArray, List.set_cons_zero, List.set_cons_succ]
      refine takeH 23 (some 36) (.bool true) rfl rfl (by kernel_rfl) (by kernel_rfl) (by kernel_rfl) (fun _ _ _ h => h) (by rfl) hS1 (fun w hSw => by go_split_ands; go_simp <;> first | omega | (rw [IntKind.wrap_i64]; omega) | (intro h; exfalso; omega)) ?_
      simp only [Act.put, List.setIfInBounds_toArray, List.set_cons_zero, List.set_cons_succ]
      refine wpAnyH_done (by kernel_rfl) ?_ _
      go_wp2
      go_ret
      exact ⟨by rw [HN.out k hlt hno]; rfl, below_next hbel.drew (Nat.le_refl _) hb1⟩
    · have hyes' : logAt T X k = true := logAt_mk hyes.1 hyes.2.1 hyes.2.2 (Or.inr (by omega))
      go_wp2_with fail
      have hS : (fun w' => w'.cell? ⟨b, o + k * 2, none⟩ = some (.int .i64 (T k)) ∧ w'.cell? ⟨b, o + k * 2 + 1, none⟩ = some (.string (X k)) ∧ w'.cell? ⟨b, o + (k - 1) * 2, none⟩ = some (.int .i64 (T (k - 1)))) wr.drew := ⟨c0, c1, d0⟩
      refine wp_region_held_drew (S := fun w' => w'.cell? ⟨b, o + k * 2, none⟩ = some (.int .i64 (T k)) ∧ w'.cell? ⟨b, o + k * 2 + 1, none⟩ = some (.string (X k)) ∧ w'.cell? ⟨b, o + (k - 1) * 2, none⟩ = some (.int .i64 (T (k - 1)))) (by kernel_rfl) hS (fun hS => ?_)
      refine takeH 0 (some 13) (.slice (some ⟨b, o, none⟩) n cap) rfl rfl (by kernel_rfl) (by kernel_rfl) (by kernel_rfl) (fun _ _ _ h => h) (by rfl) hS (fun w hSw => by go_split_ands; go_simp <;> first | omega | (rw [IntKind.wrap_i64]; omega) | (intro h; exfalso; omega)) ?_
      simp only [Act.put, List.setIfInBounds_toArray, List.set_cons_zero, List.set_cons_succ]
      refine takeH 1 (some 14) (.int .i64 (k : Int)) rfl rfl (by kernel_rfl) (by kernel_rfl) (by kernel_rfl) (fun _ _ _ h => h) (by rfl) hS (fun w hSw => by go_split_ands; go_simp <;> first | omega | (rw [IntKind.wrap_i64]; omega) | (intro h; exfalso; omega)) ?_
      simp only [Act.put, List.setIfInBounds_toArray, List.set_cons_zero, List.set_cons_succ]
      refine takeH 2 (some 15) (.pointer (some ⟨b, o + k * 2, none⟩)) rfl rfl (by kernel_rfl) (by kernel_rfl) (by kernel_rfl) (fun _ _ _ h => h) (by rfl) hS (fun w hSw => by go_split_ands; go_simp <;> first | omega | (rw [IntKind.wrap_i64]; omega) | (intro h; exfalso; omega)) ?_
      simp only [Act.put, List.setIfInBounds_toArray, List.set_cons_zero, List.set_cons_succ]
      refine takeH 3 (some 16) (.agg #[.int .i64 (T k), .string (X k)]) rfl rfl (by kernel_rfl) (by kernel_rfl) (by kernel_rfl) (fun _ _ _ h => h) (by rfl) hS (fun w hSw => by go_split_ands; go_simp <;> first | omega | (rw [IntKind.wrap_i64]; omega) | (intro h; exfalso; omega)) ?_
      simp only [Act.put, List.setIfInBounds_toArray, List.set_cons_zero, List.set_cons_succ]
      refine step1H 4 _ rfl (by kernel_rfl) (by rfl) ?_
      go_simp
      refine (HE _).mono ?_
      rintro e w1 ⟨rfl, hb1⟩
      have hS1 : (fun w' => w'.cell? ⟨b, o + k * 2, none⟩ = some (.int .i64 (T k)) ∧ w'.cell? ⟨b, o + k * 2 + 1, none⟩ = some (.string (X k)) ∧ w'.cell? ⟨b, o + (k - 1) * 2, none⟩ = some (.int .i64 (T (k - 1)))) w1 := ⟨keep_cell hb1 (Nat.le_refl _) hS.1, keep_cell hb1 (Nat.le_refl _) hS.2.1, keep_cell hb1 (Nat.le_refl _) hS.2.2⟩
      refine ⟨hS1, ?_⟩
      refine takeH 5 (some 18) (.bool false) rfl rfl (by kernel_rfl) (by kernel_rfl) (by kernel_rfl) (fun _ _ _ h => h) (by rfl) hS1 (fun w hSw => by go_split_ands; go_simp <;> first | omega | (rw [IntKind.wrap_i64]; omega) | (intro h; exfalso; omega)) ?_
      simp only [Act.put, List.setIfInBounds_toArray, List.set_cons_zero, List.set_cons_succ]
      refine takeH 6 (some 19) (.bool false) rfl rfl (by kernel_rfl) (by kernel_rfl) (by kernel_rfl) (fun _ _ _ h => h) (by rfl) hS1 (fun w hSw => by go_split_ands; go_simp <;> first | omega | (rw [IntKind.wrap_i64]; omega) | (intro h; exfalso; omega)) ?_
      simp only [Act.put, List.setIfInBounds_toArray, List.set_cons_zero, List.set_cons_succ]
      refine takeH 7 (some 20) (.int .i64 (k : Int)) rfl rfl (by kernel_rfl) (by kernel_rfl) (by kernel_rfl) (fun _ _ _ h => h) (by rfl) hS1 (fun w hSw => by go_split_ands; go_simp <;> first | omega | (rw [IntKind.wrap_i64]; omega) | (intro h; exfalso; omega)) ?_
      simp only [Act.put, List.setIfInBounds_toArray, List.set_cons_zero, List.set_cons_succ]
      refine takeH 8 (some 21) (.bool true) rfl rfl (by kernel_rfl) (by kernel_rfl) (by kernel_rfl) (fun _ _ _ h => h) (by rfl) hS1 (fun w hSw => by go_split_ands; go_simp <;> first | omega | (rw [IntKind.wrap_i64]; omega) | (intro h; exfalso; omega)) ?_
      simp only [Act.put, List.setIfInBounds_toArray, List.set_cons_zero, List.set_cons_succ]
      refine takeH 9 (some 22) (.bool true) rfl rfl (by kernel_rfl) (by kernel_rfl) (by kernel_rfl) (fun _ _ _ h => h) (by rfl) hS1 (fun w hSw => by go_split_ands; go_simp <;> first | omega | (rw [IntKind.wrap_i64]; omega) | (intro h; exfalso; omega)) ?_
      simp only [Act.put, List.setIfInBounds_toArray, List.set_cons_zero, List.set_cons_succ]
      refine takeH 10 (some 23) (.slice (some ⟨b, o, none⟩) n cap) rfl rfl (by kernel_rfl) (by kernel_rfl) (by kernel_rfl) (fun _ _ _ h => h) (by rfl) hS1 (fun w hSw => by go_split_ands; go_simp <;> first | omega | (rw [IntKind.wrap_i64]; omega) | (intro h; exfalso; omega)) ?_
      simp only [Act.put, List.setIfInBounds_toArray, List.set_cons_zero, List.set_cons_succ]
      refine takeH 11 (some 24) (.int .i64 (k : Int)) rfl rfl (by kernel_rfl) (by kernel_rfl) (by kernel_rfl) (fun _ _ _ h => h) (by rfl) hS1 (fun w hSw => by go_split_ands; go_simp <;> first | omega | (rw [IntKind.wrap_i64]; omega) | (intro h; exfalso; omega)) ?_
      simp only [Act.put, List.setIfInBounds_toArray, List.set_cons_zero, List.set_cons_succ]
      refine takeH 12 (some 25) (.pointer (some ⟨b, o + k * 2, none⟩)) rfl rfl (by kernel_rfl) (by kernel_rfl) (by kernel_rfl) (fun _ _ _ h => h) (by rfl) hS1 (fun w hSw => by go_split_ands; go_simp <;> first | omega | (rw [IntKind.wrap_i64]; omega) | (intro h; exfalso; omega)) ?_
      simp only [Act.put, List.setIfInBounds_toArray, List.set_cons_zero, List.set_cons_succ]
      refine takeH 13 (some 26) (.pointer (some ⟨b, o + k * 2, none⟩)) rfl rfl (by kernel_rfl) (by kernel_rfl) (by kernel_rfl) (fun _ _ _ h => h) (by rfl) hS1 (fun w hSw => by go_split_ands; go_simp <;> first | omega | (rw [IntKind.wrap_i64]; omega) | (intro h; exfalso; omega)) ?_
      simp only [Act.put, List.setIfInBounds_toArray, List.set_cons_zero, List.set_cons_succ]
      refine takeH 14 (some 27) (.int .i64 (T k)) rfl rfl (by kernel_rfl) (by kernel_rfl) (by kernel_rfl) (fun _ _ _ h => h) (by rfl) hS1 (fun w hSw => by go_split_ands; go_simp <;> first | omega | (rw [IntKind.wrap_i64]; omega) | (intro h; exfalso; omega)) ?_
      simp only [Act.put, List.setIfInBounds_toArray, List.set_cons_zero, List.set_cons_succ]
      refine takeH 15 (some 28) (.slice (some ⟨b, o, none⟩) n cap) rfl rfl (by kernel_rfl) (by kernel_rfl) (by kernel_rfl) (fun _ _ _ h => h) (by rfl) hS1 (fun w hSw => by go_split_ands; go_simp <;> first | omega | (rw [IntKind.wrap_i64]; omega) | (intro h; exfalso; omega)) ?_
      simp only [Act.put, List.setIfInBounds_toArray, List.set_cons_zero, List.set_cons_succ]
      refine takeH 16 (some 29) (.int .i64 (k : Int)) rfl rfl (by kernel_rfl) (by kernel_rfl) (by kernel_rfl) (fun _ _ _ h => h) (by rfl) hS1 (fun w hSw => by go_split_ands; go_simp <;> first | omega | (rw [IntKind.wrap_i64]; omega) | (intro h; exfalso; omega)) ?_
      simp only [Act.put, List.setIfInBounds_toArray, List.set_cons_zero, List.set_cons_succ]
      refine takeH 17 (some 30) (.int .i64 ((k : Int) - 1)) rfl rfl (by kernel_rfl) (by kernel_rfl) (by kernel_rfl) (fun _ _ _ h => h) (by rfl) hS1 (fun w hSw => by go_split_ands; go_simp <;> first | omega | (rw [IntKind.wrap_i64]; omega) | (intro h; exfalso; omega)) ?_
      simp only [Act.put, List.setIfInBounds_toArray, List.set_cons_zero, List.set_cons_succ]
      refine takeH 18 (some 31) (.pointer (some ⟨b, o + (k - 1) * 2, none⟩)) rfl rfl (by kernel_rfl) (by kernel_rfl) (by kernel_rfl) (fun _ _ _ h => h) (by rfl) hS1 (fun w hSw => by go_split_ands; go_simp <;> first | omega | (rw [IntKind.wrap_i64]; omega) | (intro h; exfalso; omega)) ?_
      simp only [Act.put, List.setIfInBounds_toArray, List.set_cons_zero, List.set_cons_succ]
      refine takeH 19 (some 32) (.pointer (some ⟨b, o + (k - 1) * 2, none⟩)) rfl rfl (by kernel_rfl) (by kernel_rfl) (by kernel_rfl) (fun _ _ _ h => h) (by rfl) hS1 (fun w hSw => by go_split_ands; go_simp <;> first | omega | (rw [IntKind.wrap_i64]; omega) | (intro h; exfalso; omega)) ?_
      simp only [Act.put, List.setIfInBounds_toArray, List.set_cons_zero, List.set_cons_succ]
      refine takeH 20 (some 33) (.int .i64 (T (k - 1))) rfl rfl (by kernel_rfl) (by kernel_rfl) (by kernel_rfl) (fun _ _ _ h => h) (by rfl) hS1 (fun w hSw => by go_split_ands; go_simp <;> first | omega | (rw [IntKind.wrap_i64]; omega) | (intro h; exfalso; omega)) ?_
      simp only [Act.put, List.setIfInBounds_toArray, List.set_cons_zero, List.set_cons_succ]
      refine takeH 21 (some 34) (.bool false) rfl rfl (by kernel_rfl) (by kernel_rfl) (by kernel_rfl) (fun _ _ _ h => h) (by rfl) hS1 (fun w hSw => by go_split_ands; go_simp <;> first | omega | (rw [IntKind.wrap_i64]; omega) | (intro h; exfalso; omega)) ?_
      simp only [Act.put, List.setIfInBounds_toArray, List.set_cons_zero, List.set_cons_succ]
      refine takeH 22 (some 35) (.bool false) rfl rfl (by kernel_rfl) (by kernel_rfl) (by kernel_rfl) (fun _ _ _ h => h) (by rfl) hS1 (fun w hSw => by go_split_ands; go_simp <;> first | omega | (rw [IntKind.wrap_i64]; omega) | (intro h; exfalso; omega)) ?_
      simp only [Act.put, List.setIfInBounds_toArray, List.set_cons_zero, List.set_cons_succ]
      refine takeH 23 (some 36) (.bool false) rfl rfl (by kernel_rfl) (by kernel_rfl) (by kernel_rfl) (fun _ _ _ h => h) (by rfl) hS1 (fun w hSw => by go_split_ands; go_simp <;> first | omega | (rw [IntKind.wrap_i64]; omega) | (intro h; exfalso; omega)) ?_
      simp only [Act.put, List.setIfInBounds_toArray, List.set_cons_zero, List.set_cons_succ]
      refine wpAnyH_done (by kernel_rfl) ?_ _
      go_wp2
      go_roundw
      case rel =>
        refine ⟨k + 1, by omega, by go_num, fun j hj => ?_, below_next hbel.drew (Nat.le_refl _) hb1⟩
        by_cases e : j = k
        · subst e; exact hyes'
        · exact hat j (by omega)
      case measure => simp [intOf]; omega


theorem faultOfLog_any (ao : Option Addr) (n cap : Nat) (T : Nat → Int) (X : Nat → ByteArray) (a : Addr) (hn : n ≤ 9223372036854775807) (hX : ∀ k, k < n → (X k).size ≤ 1048576) (w : World) (hr : NRow w ao n T X)
    (hV : w.cell? ⟨1, 0, none⟩ = some (.iface 177 (.pointer (some a)))) :
    Calls Tryd.prog 57 #[.slice ao n cap] w fun e w' => (logB n T X = true ∧ e = .returned .nilIface ∨ logB n T X = false ∧ ∃ m, e = .returned (mis m a)) ∧ Below w.heap.size w w' := by
  by_cases h200 : 200 < n
  · have h2' : (200 : Int) < (n : Int) := by omega
    go_enter Tryd.func57, Tryd.ntmps57
    go_wp2
    go_ret
    exact ⟨Or.inr ⟨logB_long h200, _, rfl⟩, Below.refl _ _⟩
  have h2' : ¬ (200 : Int) < (n : Int) := by omega
  have HB : Hid ((∀ k, k < n → logAt T X k = true) → logB n T X = true) := fun h => logB_true (by omega) h
  have HN : Hid (∀ k, k < n → logAt T X k = false → logB n T X = false) := fun k h1 h2 => logB_bad h1 h2
  generalize logB n T X = B at HB HN ⊢
  go_enter Tryd.func57, Tryd.ntmps57
  go_wp2
  go_loopw [3, 16] (fun l i wr => ∃ k : Nat, k ≤ n ∧ i = .int .i64 k ∧ l = .int .i64 (if k = 0 then 1 else T (k - 1)) ∧ (∀ j, j < k → logAt T X j = true) ∧ Below w.heap.size w wr) (fun _ i _ => n - (intOf i).toNat)
  case atStart => exact ⟨0, Nat.zero_le _, rfl, rfl, fun j hj => by omega, Below.refl _ _⟩
  case round =>
    obtain ⟨k, hk, rfl, rfl, hat, hbel⟩ := hrel
    by_cases hlt : k < n
    rotate_left
    · have hkn : k = n := by omega
      subst hkn
      generalize (if k = 0 then (1 : Int) else T (k - 1)) = l
      go_wp2
      go_ret
      exact ⟨Or.inl ⟨HB.out hat, rfl⟩, hbel⟩
    obtain ⟨b, o, hao, c0, c1⟩ := (hr.below hbel (Nat.le_refl _)) k hlt
    subst hao
    have hk1 : (0 : Int) ≤ (k : Int) := by omega
    have hk2 : (k : Int) < (n : Int) := by omega
    have hR := fun W => implRead_same (X k) (hX k hlt) W
    obtain ⟨R, hRe⟩ : ∃ R, onlyOk (rdS (X k).data.toList) = R := ⟨_, rfl⟩
    rw [hRe] at hR
    have hiC : isC (X k) = R.isSome := by unfold isC; rw [hRe]
    have HR : Hid (∀ W, Calls Tryd.prog 10 #[.string (X k)] W fun e w' => CAns W w' e R) := hR
    clear hR hRe
    have hg0 : wr.cell? ⟨1, 0, none⟩ = some (.iface 177 (.pointer (some a))) := by rw [hbel.cell (lt_of_cell hV)]; exact hV
    obtain ⟨l, hl⟩ : ∃ l, (if k = 0 then 1 else T (k - 1)) = l := ⟨_, rfl⟩
    have hl2 : ∀ t, (1 ≤ t ∧ (k = 0 ∨ T (k - 1) ≤ t)) ↔ l ≤ t := by
      intro t
      subst hl
      by_cases h0 : k = 0
      · simp [h0]
      · have := (logAt_out (hat (k - 1) (by omega))).2.1
        simp only [h0, if_false, false_or]
        omega
    rw [hl]
    clear hl
    go_wp2_with fail
    refine (HR.out _).mono ?_
    rintro e w1 ⟨ao', cap', rfl, _, hb1⟩
    have hA : Below w.heap.size w w1 := (hbel.alloc hbel.size _).trans (hb1.mono (by have := hbel.size; simp; omega))
    have c0' : w1.cell? ⟨wr.heap.size, 0, none⟩ = some (.int .i64 (T k)) := by rw [hb1.cell (by simp)]; simp [go_sem]
    have g0' : w1.cell? ⟨1, 0, none⟩ = some (.iface 177 (.pointer (some a))) := by rw [hA.cell (lt_of_cell hV)]; exact hV
    have hA2 := fun o => hA.alloc hA.size o
    have d0 : ∀ o, (w1.alloc o).cell? ⟨wr.heap.size, 0, none⟩ = some (.int .i64 (T k)) := fun o => by rw [((Below.refl w1.heap.size w1).alloc (Nat.le_refl _) o).cell (lt_of_cell c0')]; exact c0'
    have g0 : ∀ o, (w1.alloc o).cell? ⟨1, 0, none⟩ = some (.iface 177 (.pointer (some a))) := fun o => by rw [((Below.refl w1.heap.size w1).alloc (Nat.le_refl _) o).cell (lt_of_cell g0')]; exact g0'
    clear c0' g0' hb1 c0 c1 hg0
    cases hq : R.isSome
    · have hno : logAt T X k = false := logAt_not (fun h => by rw [hiC, hq] at h; exact absurd h.1 (by simp))
      go_wp2
      go_ret
      exact ⟨Or.inr ⟨HN.out k hlt hno, _, rfl⟩, hA2 _⟩
    by_cases h3 : T k < l
    · have hno : logAt T X k = false := logAt_not (fun h => by have := (hl2 (T k)).1 ⟨h.2.1, h.2.2.2⟩; omega)
      go_wp2
      go_ret
      exact ⟨Or.inr ⟨HN.out k hlt hno, _, rfl⟩, hA2 _⟩
    by_cases h4 : (100000 : Int) < T k
    · have hno : logAt T X k = false := logAt_not (fun h => by omega)
      go_wp2
      go_ret
      exact ⟨Or.inr ⟨HN.out k hlt hno, _, rfl⟩, hA2 _⟩
    have hyes : logAt T X k = true := by
      have := (hl2 (T k)).2 (by omega)
      exact logAt_mk (by rw [hiC, hq]) this.1 (by omega) this.2
    go_wp2
    go_roundw
    case rel =>
      refine ⟨k + 1, by omega, by go_num, by simp, fun j hj => ?_, hA2 _⟩
      by_cases e : j = k
      · subst e; exact hyes
      · exact hat j (by omega)
    case measure => simp [intOf]; omega

theorem implLogOk_any (ao : Option Addr) (n cap : Nat) (T : Nat → Int) (X : Nat → ByteArray) (a : Addr) (hn : n ≤ 9223372036854775807) (hX : ∀ k, k < n → (X k).size ≤ 1048576) (w : World) (hr : NRow w ao n T X)
    (hV : w.cell? ⟨1, 0, none⟩ = some (.iface 177 (.pointer (some a)))) :
    Calls Tryd.prog 27 #[.slice ao n cap] w fun e w' => e = .returned (.bool (logB n T X)) ∧ Below w.heap.size w w' := by
  have HF : Hid (∀ W, NRow W ao n T X → W.cell? ⟨1, 0, none⟩ = some (.iface 177 (.pointer (some a))) → Calls Tryd.prog 57 #[.slice ao n cap] W fun e w' => (logB n T X = true ∧ e = .returned .nilIface ∨ logB n T X = false ∧ ∃ m, e = .returned (mis m a)) ∧ Below W.heap.size W w') := fun W h1 h2 => faultOfLog_any ao n cap T X a hn hX W h1 h2
  generalize logB n T X = B at HF ⊢
  go_enter Tryd.func27, Tryd.ntmps27
  go_wp2_with fail
  have hS : (fun w' : World => w'.cell? ⟨1, 0, none⟩ = some (.iface 177 (.pointer (some a)))) w.drew := hV
  refine wp_region_held_drew (S := fun w' => w'.cell? ⟨1, 0, none⟩ = some (.iface 177 (.pointer (some a)))) (by kernel_rfl) hS (fun hS => ?_)
  refine takeH 0 (some 3) (.slice ao n cap) rfl rfl (by kernel_rfl) (by kernel_rfl) (by kernel_rfl) (fun _ _ _ h => h) (by rfl) hS (fun w hSw => by go_simp) ?_
  simp only [Act.put, List.setIfInBounds_toArray, List.set_cons_zero, List.set_cons_succ]
  refine takeH 2 (some 5) (.iface 177 (.pointer (some a))) rfl rfl (by kernel_rfl) (by kernel_rfl) (by kernel_rfl) (fun _ _ _ h => h) (by rfl) hS (fun w hSw => by have hSw' : w.cell? ⟨1, 0, none⟩ = some (.iface 177 (.pointer (some a))) := hSw; go_simp) ?_
  simp only [Act.put, List.setIfInBounds_toArray, List.set_cons_zero, List.set_cons_succ]
  refine step1H 1 _ rfl (by kernel_rfl) (by rfl) ?_
  go_simp
  refine (HF.out _ (hr.below (Below.refl w.heap.size w).drew (Nat.le_refl _)) hV).mono ?_
  rintro e w1 ⟨hE, hb1⟩
  have hS1 : w1.cell? ⟨1, 0, none⟩ = some (.iface 177 (.pointer (some a))) := keep_cell hb1 (Nat.le_refl _) hS
  have hA := below_next (Below.refl w.heap.size w).drew (Nat.le_refl _) hb1
  rcases hE with ⟨rfl, rfl⟩ | ⟨rfl, m, rfl⟩
  · refine ⟨hS1, ?_⟩
    refine step1H 3 _ rfl (by kernel_rfl) (by rfl) ?_
    go_simp
    refine (is_nil a _).mono ?_
    rintro e w2 ⟨rfl, rfl⟩
    refine ⟨hS1, ?_⟩
    refine takeH 4 (some 7) (.bool true) rfl rfl (by kernel_rfl) (by kernel_rfl) (by kernel_rfl) (fun _ _ _ h => h) (by rfl) hS1 (fun w hSw => by go_simp) ?_
    simp only [Act.put, List.setIfInBounds_toArray, List.set_cons_zero, List.set_cons_succ]
    refine takeH 5 (some 2) (.bool true) rfl rfl (by kernel_rfl) (by kernel_rfl) (by kernel_rfl) (fun _ _ _ h => h) (by rfl) hS1 (fun w hSw => by go_simp) ?_
    simp only [Act.put, List.setIfInBounds_toArray, List.set_cons_zero, List.set_cons_succ]
    refine wpAnyH_done (by kernel_rfl) ?_ _
    go_wp2
    go_ret
    exact ⟨rfl, hA⟩
  · refine ⟨hS1, ?_⟩
    refine step1H 3 _ rfl (by kernel_rfl) (by rfl) ?_
    go_simp
    refine (is_mis m a _).mono ?_
    rintro e w2 ⟨rfl, hb2⟩
    have hS2 : w2.cell? ⟨1, 0, none⟩ = some (.iface 177 (.pointer (some a))) := keep_cell hb2 (Nat.le_refl _) hS1
    refine ⟨hS2, ?_⟩
    refine takeH 4 (some 7) (.bool false) rfl rfl (by kernel_rfl) (by kernel_rfl) (by kernel_rfl) (fun _ _ _ h => h) (by rfl) hS2 (fun w hSw => by go_simp) ?_
    simp only [Act.put, List.setIfInBounds_toArray, List.set_cons_zero, List.set_cons_succ]
    refine takeH 5 (some 2) (.bool false) rfl rfl (by kernel_rfl) (by kernel_rfl) (by kernel_rfl) (fun _ _ _ h => h) (by rfl) hS2 (fun w hSw => by go_simp) ?_
    simp only [Act.put, List.setIfInBounds_toArray, List.set_cons_zero, List.set_cons_succ]
    refine wpAnyH_done (by kernel_rfl) ?_ _
    go_wp2
    go_ret
    exact ⟨rfl, below_next hA (Nat.le_refl _) hb2⟩

end Go.Proofs.YtcmeppjfjledfacDoor
