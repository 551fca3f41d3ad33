/-
  The document's ReadCommand of a text that begins with weigh and a blank.
-/
import Derived.Test.YticckgmkhgnmfaaDoorPack7
set_option linter.unusedVariables false
set_option linter.unusedSimpArgs false
namespace Go.Proofs.YticckgmkhgnmfaaDoor
open Go.RowKit Go.Maps
attribute [local go_sem ↓] Go.wp_at_zero Go.wp_at_succ

set_option maxHeartbeats 8000000 in
set_option maxRecDepth 20000 in
theorem specRead_weigh (s : ByteArray) (hs : s.size ≤ 1048576) (hN : (s.toList == [110, 111, 110, 101]) = false) (h6 : 6 < s.size) (hA : ((s.extract 0 4).toList == [97, 115, 107, 32]) = false) (hW : ((s.extract 0 6).toList == [119, 101, 105, 103, 104, 32]) = true) (w : World) :
    Calls Tryd.prog 33 #[.string s] w fun e w' => CAns w w' e (onlyOk (weighR (snums (s.data.toList.drop 6) [] []))) := by
  obtain ⟨v1, v2, hB, hsz⟩ := c4_two w (.int .i64 0) (.slice none 0 0) (.int .i64 0) (.int .i64 0) (.int .i64 0) (.slice none 0 0) (.int .i64 0) (.int .i64 0) 62
  have h4' : (4 : Int) < (s.size : Int) := by omega
  have h6' : (6 : Int) < (s.size : Int) := by omega
  have HNU : Hid (∀ W, Calls Tryd.prog 55 #[.string (s.extract 6 s.size)] W fun e w' => NAns W w' e (snums (s.data.toList.drop 6) [] [])) := fun W => by
    have := l1Numbers_any (s.extract 6 s.size) (by simp; omega) W
    rwa [extract_list, List.take_of_length_le (by simp)] at this
  generalize snums (s.data.toList.drop 6) [] [] = T at HNU ⊢
  obtain ⟨R, hR⟩ : ∃ R, R = onlyOk (weighR T) := ⟨_, rfl⟩
  rw [← hR]
  have HR : Hid (R = onlyOk (weighR T)) := hR
  clear hR
  go_enter Tryd.func33, Tryd.ntmps33
  go_wp2_with fail
  generalize ((w.alloc (.cells #[.int .i64 0, .slice none 0 0, .int .i64 0, .int .i64 0] 62)).alloc (.cells #[.int .i64 0, .slice none 0 0, .int .i64 0, .int .i64 0] 62)) = W at v1 v2 hB hsz ⊢
  refine (HNU.out _).mono ?_
  rintro e w1 ⟨ns, ok, g, cap, rfl, hT, hln, hown, hb1⟩
  replace v1 := v1.next hb1
  replace v2 := v2.next hb1
  replace hB := below_next hB (Nat.le_refl _) hb1
  have r0 := v1.cell (j := 0) (by omega)
  have r1 := v1.cell (j := 1) (by omega)
  have r2 := v1.cell (j := 2) (by omega)
  have r3 := v1.cell (j := 3) (by omega)
  have fz := fun j => v1.frozen j
  clear hb1 HNU
  have hbad : (ok = false ∨ (ok = true ∧ ns.length % 3 ≠ 0)) ∨ (ok = true ∧ ns.length % 3 = 0) := by
    cases ok
    · exact .inl (.inl rfl)
    · by_cases h : ns.length % 3 = 0
      · exact .inr ⟨rfl, h⟩
      · exact .inl (.inr ⟨rfl, h⟩)
  rcases hbad with hbad | ⟨rfl, hl2⟩
  · have HE : Hid (R = none) := by
      show _ = _
      rw [HR.out]
      rcases hT with ⟨h1, h2⟩ | ⟨h1, h2⟩
      · rcases hbad with h3 | ⟨_, h3⟩
        · rw [h1] at h3; cases h3
        · rw [h2]; simp [h3, onlyOk, weighR]
      · rw [h2]; rfl
    clear v2 HR hT
    rcases hbad with rfl | ⟨rfl, hl2⟩
    · go_wp2
      obtain ⟨q0, q1, q2, q3⟩ := st4 v1 (.int .i64 0) (.slice none 0 0) (.int .i64 0) (.int .i64 0)
      exact bodyPost_ret (v := .tuple #[.agg #[.int .i64 0, .slice none 0 0, .int .i64 0, .int .i64 0], .bool false]) (by simp [results, Tryd.results33, go_sem, q0, q1, q2, q3]) rfl (by rw [HE.out]; exact ⟨none, 0, rfl, owns_none _ _ _ _, st4_below hB (Nat.le_refl _) _ _ _ _⟩)
    · have hl2' : ((ns.length : Int) % 3 != 0) = true := by simp; omega
      have hl3 : ¬ (ns.length : Int) % 3 = 0 := by omega
      clear hl2
      go_wp2
      obtain ⟨q0, q1, q2, q3⟩ := st4 v1 (.int .i64 0) (.slice none 0 0) (.int .i64 0) (.int .i64 0)
      exact bodyPost_ret (v := .tuple #[.agg #[.int .i64 0, .slice none 0 0, .int .i64 0, .int .i64 0], .bool false]) (by simp [results, Tryd.results33, go_sem, q0, q1, q2, q3]) rfl (by rw [HE.out]; exact ⟨none, 0, rfl, owns_none _ _ _ _, st4_below hB (Nat.le_refl _) _ _ _ _⟩)
  have HR2 : Hid (R = if okC 2 ns = true then some (2, ns) else none) := by
    show _ = _
    rw [HR.out]
    rcases hT with ⟨_, h2⟩ | ⟨h1, _⟩
    · rw [h2]; simp [weighR, hl2, onlyOk]
    · cases h1
  clear HR hT
  have gb := hown.base
  have gl := hown.lt
  have hI := hown.has
  have HL : Hid (ns.length % 3 = 0) := hl2
  have hl3 : (ns.length : Int) % 3 = 0 := by omega
  clear hown hl2 r0 r1 r2 r3 fz
  have hw1 := hB.size
  have t0 : w1.cell? ⟨w.heap.size + 1, 0, none⟩ = some (.int .i64 0) := v2.cell (j := 0) (by omega)
  have fz2 := fun j => v2.frozen j
  have v2' := (v2.set 0 (.int .i64 2)).congr (g := c4 (.int .i64 2) (.slice none 0 0) (.int .i64 0) (.int .i64 0)) (fun j hj => by
    have : j = 0 ∨ j = 1 ∨ j = 2 ∨ j = 3 := by omega
    rcases this with rfl | rfl | rfl | rfl <;> rfl)
  have v1' := v1.other (c := w.heap.size + 1) (i := 0) (by omega) (.int .i64 2)
  have hB' := hB.setCell (p := ⟨w.heap.size + 1, 0, none⟩) (by simp) (.int .i64 2)
  have hI' := hI.of_block (w' := w1.setCell ⟨w.heap.size + 1, 0, none⟩ (.int .i64 2)) (Below.heap_setCell _ _ _ _ (by simp; omega))
  have hs' : (w1.setCell ⟨w.heap.size + 1, 0, none⟩ (.int .i64 2)).heap.size = w1.heap.size := by simp [World.setCell]
  clear v1 v2 hB hI
  go_wp2
  generalize w1.setCell ⟨w.heap.size + 1, 0, none⟩ (.int .i64 2) = X at v1' v2' hB' hI' hs' ⊢
  clear t0 fz2 hl3
  go_loopw [9] (fun x wr => ∃ (m k gc : Nat) (go : Option Addr), Hid (m = 3 * k) ∧ m ≤ ns.length ∧ x = .int .i64 m ∧ VHas wr (w.heap.size + 1) 62 4 (c4 (.int .i64 2) (.slice go k gc) (.int .i64 0) (.int .i64 0)) ∧ VHas wr w.heap.size 62 4 (c4 (.int .i64 0) (.slice none 0 0) (.int .i64 0) (.int .i64 0)) ∧ OwnA wr w1.heap.size go k gc (tri ns) ∧ IHas wr g ns.length (gd ns) ∧ w1.heap.size ≤ wr.heap.size ∧ g < w1.heap.size ∧ Below w.heap.size w wr) (fun x _ => ns.length - (intOf x).toNat)
  case atStart => exact ⟨0, 0, 0, none, rfl, Nat.zero_le _, rfl, v2', v1', OwnA.nil _ _ _, hI', Nat.le_of_eq hs'.symm, gl, hB'⟩
  case round =>
    clear v1' v2' hB' hI' hs'
    obtain ⟨m, k, gc, go, HM, hm, rfl, v2, v1, hO, hI, hsz1, hgl, hB⟩ := hrel
    by_cases hlt : m < ns.length
    · have hk := HM.out
      have h3 := HL.out
      have hlt0 : (m : Int) < (ns.length : Int) := by omega
      have hlt1 : (m : Int) + 1 < (ns.length : Int) := by omega
      have hlt2 : (m : Int) + 2 < (ns.length : Int) := by omega
      have hm0 : (0 : Int) ≤ (m : Int) := by omega
      have c0 : wr.cell? ⟨g, m, none⟩ = some (.int .i64 (tri ns (k * 3))) := by
        rw [tri0, ← hk]
        exact hI.cell (j := m) (by omega)
      have c1 : wr.cell? ⟨g, m + 1, none⟩ = some (.int .i64 (tri ns (k * 3 + 1))) := by
        rw [tri1, ← hk]
        exact hI.cell (j := m + 1) (by omega)
      have c2 : wr.cell? ⟨g, m + 2, none⟩ = some (.int .i64 (tri ns (k * 3 + 2))) := by
        rw [tri2, ← hk]
        exact hI.cell (j := m + 2) (by omega)
      have b1 : wr.cell? ⟨w.heap.size + 1, 1, none⟩ = some (.slice go k gc) := v2.cell (j := 1) (by omega)
      have bz := v2.frozen 1
      have hOd := hO.next (Below.refl _ wr).drew
      have hkb : k ≤ 10000000 := by omega
      have hq1 : IntKind.i64.wrap ((m : Int) + 1) = (m : Int) + 1 := by rw [IntKind.wrap_i64]; omega
      have hq2 : IntKind.i64.wrap ((m : Int) + 2) = (m : Int) + 2 := by rw [IntKind.wrap_i64]; omega
      have hp1 : (0 : Int) ≤ (m : Int) + 1 := by omega
      have hp2 : (0 : Int) ≤ (m : Int) + 2 := by omega
      have hn1 : ((m : Int) + 1).toNat = m + 1 := by omega
      have hn2 : ((m : Int) + 2).toNat = m + 2 := by omega
      clear hk h3
      go_wp2_with fail
      refine wp_region_held_drew (S := (fun X : World => X.cell? ⟨g, m, none⟩ = some (.int .i64 (tri ns (k * 3))) ∧ X.cell? ⟨g, m + 1, none⟩ = some (.int .i64 (tri ns (k * 3 + 1))) ∧ X.cell? ⟨g, m + 2, none⟩ = some (.int .i64 (tri ns (k * 3 + 2))))) (by kernel_rfl) ⟨c0, c1, c2⟩ (fun hS0 => ?_)
      refine takeH 0 (some 76) (.pointer (some ⟨w.heap.size + 1, 1, none⟩)) rfl rfl (by kernel_rfl) (by kernel_rfl) (by kernel_rfl) (fun _ _ _ h => h) (by rfl) hS0 (fun V hV => by obtain ⟨v1, v2, v3⟩ := hV; go_simp) ?_
      simp only [Act.put, List.setIfInBounds_toArray, List.set_cons_zero, List.set_cons_succ]
      refine takeH 2 (some 78) (.slice (some ⟨g, 0, none⟩) ns.length cap) rfl rfl (by kernel_rfl) (by kernel_rfl) (by kernel_rfl) (fun _ _ _ h => h) (by rfl) hS0 (fun V hV => by obtain ⟨v1, v2, v3⟩ := hV; go_simp) ?_
      simp only [Act.put, List.setIfInBounds_toArray, List.set_cons_zero, List.set_cons_succ]
      refine takeH 3 (some 79) (.int .i64 (m : Int)) rfl rfl (by kernel_rfl) (by kernel_rfl) (by kernel_rfl) (fun _ _ _ h => h) (by rfl) hS0 (fun V hV => by obtain ⟨v1, v2, v3⟩ := hV; go_simp) ?_
      simp only [Act.put, List.setIfInBounds_toArray, List.set_cons_zero, List.set_cons_succ]
      refine takeH 4 (some 80) (.pointer (some ⟨g, m, none⟩)) rfl rfl (by kernel_rfl) (by kernel_rfl) (by kernel_rfl) (fun _ _ _ h => h) (by rfl) hS0 (fun V hV => by obtain ⟨v1, v2, v3⟩ := hV; go_simp) ?_
      simp only [Act.put, List.setIfInBounds_toArray, List.set_cons_zero, List.set_cons_succ]
      refine takeH 5 (some 81) (.int .i64 (tri ns (k * 3))) rfl rfl (by kernel_rfl) (by kernel_rfl) (by kernel_rfl) (fun _ _ _ h => h) (by rfl) hS0 (fun V hV => by obtain ⟨v1, v2, v3⟩ := hV; go_simp) ?_
      simp only [Act.put, List.setIfInBounds_toArray, List.set_cons_zero, List.set_cons_succ]
      refine takeH 6 (some 82) (.slice (some ⟨g, 0, none⟩) ns.length cap) rfl rfl (by kernel_rfl) (by kernel_rfl) (by kernel_rfl) (fun _ _ _ h => h) (by rfl) hS0 (fun V hV => by obtain ⟨v1, v2, v3⟩ := hV; go_simp) ?_
      simp only [Act.put, List.setIfInBounds_toArray, List.set_cons_zero, List.set_cons_succ]
      refine takeH 7 (some 83) (.int .i64 (m : Int)) rfl rfl (by kernel_rfl) (by kernel_rfl) (by kernel_rfl) (fun _ _ _ h => h) (by rfl) hS0 (fun V hV => by obtain ⟨v1, v2, v3⟩ := hV; go_simp) ?_
      simp only [Act.put, List.setIfInBounds_toArray, List.set_cons_zero, List.set_cons_succ]
      refine takeH 8 (some 84) (.int .i64 ((m : Int) + 1)) rfl rfl (by kernel_rfl) (by kernel_rfl) (by kernel_rfl) (fun _ _ _ h => h) (by rfl) hS0 (fun V hV => by obtain ⟨v1, v2, v3⟩ := hV; go_simp) ?_
      simp only [Act.put, List.setIfInBounds_toArray, List.set_cons_zero, List.set_cons_succ]
      refine takeH 9 (some 85) (.pointer (some ⟨g, m + 1, none⟩)) rfl rfl (by kernel_rfl) (by kernel_rfl) (by kernel_rfl) (fun _ _ _ h => h) (by rfl) hS0 (fun V hV => by obtain ⟨v1, v2, v3⟩ := hV; go_simp) ?_
      simp only [Act.put, List.setIfInBounds_toArray, List.set_cons_zero, List.set_cons_succ]
      refine takeH 10 (some 86) (.int .i64 (tri ns (k * 3 + 1))) rfl rfl (by kernel_rfl) (by kernel_rfl) (by kernel_rfl) (fun _ _ _ h => h) (by rfl) hS0 (fun V hV => by obtain ⟨v1, v2, v3⟩ := hV; go_simp) ?_
      simp only [Act.put, List.setIfInBounds_toArray, List.set_cons_zero, List.set_cons_succ]
      refine takeH 11 (some 87) (.slice (some ⟨g, 0, none⟩) ns.length cap) rfl rfl (by kernel_rfl) (by kernel_rfl) (by kernel_rfl) (fun _ _ _ h => h) (by rfl) hS0 (fun V hV => by obtain ⟨v1, v2, v3⟩ := hV; go_simp) ?_
      simp only [Act.put, List.setIfInBounds_toArray, List.set_cons_zero, List.set_cons_succ]
      refine takeH 12 (some 88) (.int .i64 (m : Int)) rfl rfl (by kernel_rfl) (by kernel_rfl) (by kernel_rfl) (fun _ _ _ h => h) (by rfl) hS0 (fun V hV => by obtain ⟨v1, v2, v3⟩ := hV; go_simp) ?_
      simp only [Act.put, List.setIfInBounds_toArray, List.set_cons_zero, List.set_cons_succ]
      refine takeH 13 (some 89) (.int .i64 ((m : Int) + 2)) rfl rfl (by kernel_rfl) (by kernel_rfl) (by kernel_rfl) (fun _ _ _ h => h) (by rfl) hS0 (fun V hV => by obtain ⟨v1, v2, v3⟩ := hV; go_simp) ?_
      simp only [Act.put, List.setIfInBounds_toArray, List.set_cons_zero, List.set_cons_succ]
      refine takeH 14 (some 90) (.pointer (some ⟨g, m + 2, none⟩)) rfl rfl (by kernel_rfl) (by kernel_rfl) (by kernel_rfl) (fun _ _ _ h => h) (by rfl) hS0 (fun V hV => by obtain ⟨v1, v2, v3⟩ := hV; go_simp) ?_
      simp only [Act.put, List.setIfInBounds_toArray, List.set_cons_zero, List.set_cons_succ]
      refine takeH 15 (some 91) (.int .i64 (tri ns (k * 3 + 2))) rfl rfl (by kernel_rfl) (by kernel_rfl) (by kernel_rfl) (fun _ _ _ h => h) (by rfl) hS0 (fun V hV => by obtain ⟨v1, v2, v3⟩ := hV; go_simp) ?_
      simp only [Act.put, List.setIfInBounds_toArray, List.set_cons_zero, List.set_cons_succ]
      refine takeH 16 (some 92) (.agg #[.int .i64 (tri ns (k * 3)), .int .i64 (tri ns (k * 3 + 1)), .int .i64 (tri ns (k * 3 + 2))]) rfl rfl (by kernel_rfl) (by kernel_rfl) (by kernel_rfl) (fun _ _ _ h => h) (by rfl) hS0 (fun V hV => by obtain ⟨v1, v2, v3⟩ := hV; go_simp) ?_
      simp only [Act.put, List.setIfInBounds_toArray, List.set_cons_zero, List.set_cons_succ]
      have hba := (Below.refl wr.drew.heap.size wr.drew).alloc (Nat.le_refl _) (.cells #[.int .i64 (tri ns (k * 3)), .int .i64 (tri ns (k * 3 + 1)), .int .i64 (tri ns (k * 3 + 2))] 82)
      have hS1 : (fun X : World => X.cell? ⟨g, m, none⟩ = some (.int .i64 (tri ns (k * 3))) ∧ X.cell? ⟨g, m + 1, none⟩ = some (.int .i64 (tri ns (k * 3 + 1))) ∧ X.cell? ⟨g, m + 2, none⟩ = some (.int .i64 (tri ns (k * 3 + 2)))) (wr.drew.alloc (.cells #[.int .i64 (tri ns (k * 3)), .int .i64 (tri ns (k * 3 + 1)), .int .i64 (tri ns (k * 3 + 2))] 82)) := ⟨keep_cell hba (Nat.le_refl _) c0, keep_cell hba (Nat.le_refl _) c1, keep_cell hba (Nat.le_refl _) c2⟩
      have hm1 : wr.drew.heap.size = wr.heap.size := rfl
      refine step2H 1 17 _ _ rfl rfl (by kernel_rfl) (by rfl) (by rfl) ?_ ?_
      · skip
        refine wp_of_run (v := .slice go k gc) (by go_simp) ?_
        refine ⟨hS0, ?_⟩
        simp only [Act.put, List.setIfInBounds_toArray, List.set_cons_zero, List.set_cons_succ]
        refine step1H 17 _ rfl (by kernel_rfl) (by rfl) ?_
        refine wp_of_made (v := .slice (some ⟨wr.heap.size, 0, none⟩) 1 1) (w' := wr.drew.alloc (.cells #[.int .i64 (tri ns (k * 3)), .int .i64 (tri ns (k * 3 + 1)), .int .i64 (tri ns (k * 3 + 2))] 82)) (by go_simp) ?_
        refine ⟨hS1, ?_⟩
        simp only [Act.put, List.setIfInBounds_toArray, List.set_cons_zero, List.set_cons_succ]
        refine step1H 18 _ rfl (by kernel_rfl) (by rfl) ?_
        refine wp_append_known (.tmp 77) (.tmp 93) rfl w1.heap.size k gc go (tri ns) rfl (hOd.next hba) wr.heap.size rfl (Go.Deep.blk_alloc_new _ _) hkb (by simp; omega) ?_
        intro g' gc' w6 hown6 hgrow hr6
        have hne : ∀ x, (Value.slice go k gc).ownBlock = some x → w1.heap.size ≤ x := fun x e => (hO.at e).1
        have hS6 : (fun X : World => X.cell? ⟨g, m, none⟩ = some (.int .i64 (tri ns (k * 3))) ∧ X.cell? ⟨g, m + 1, none⟩ = some (.int .i64 (tri ns (k * 3 + 1))) ∧ X.cell? ⟨g, m + 2, none⟩ = some (.int .i64 (tri ns (k * 3 + 2)))) w6 := ⟨hgrow.cell hS1.1 (fun e => by have := hne g e.symm; omega), hgrow.cell hS1.2.1 (fun e => by have := hne g e.symm; omega), hgrow.cell hS1.2.2 (fun e => by have := hne g e.symm; omega)⟩
        refine ⟨hS6, ?_⟩
        simp only [Act.put, List.setIfInBounds_toArray, List.set_cons_zero, List.set_cons_succ]
        have x2 := ((v2.next (Below.refl _ wr).drew).next hba).grown hgrow (fun e => by have := hne _ e.symm; omega)
        have x1 := ((v1.next (Below.refl _ wr).drew).next hba).grown hgrow (fun e => by have := hne _ e.symm; omega)
        have xI := ((hI.below (Below.refl wr.heap.size wr).drew hI.lt).below hba hI.lt).grown hgrow (fun e => by have := hne _ e.symm; omega)
        have y1 : w6.cell? ⟨w.heap.size + 1, 1, none⟩ = some (.slice go k gc) := x2.cell (j := 1) (by omega)
        have z1 := x2.frozen 1
        refine takeH 19 (some 95) (.pointer (some ⟨w.heap.size + 1, 1, none⟩)) rfl rfl (by kernel_rfl) (by kernel_rfl) (by kernel_rfl) (fun _ _ _ h => h) (by rfl) hS6 (fun V hV => by obtain ⟨v1, v2, v3⟩ := hV; go_simp) ?_
        simp only [Act.put, List.setIfInBounds_toArray, List.set_cons_zero, List.set_cons_succ]
        refine step1H 20 _ rfl (by kernel_rfl) (by rfl) ?_
        refine wp_of_skip (w' := w6.setCell ⟨w.heap.size + 1, 1, none⟩ (.slice (some ⟨g', 0, none⟩) (k + 1) gc')) (by go_simp) ?_
        have hs9 := gr_setCell w6 (w.heap.size + 1) 1 (.slice (some ⟨g', 0, none⟩) (k + 1) gc')
        refine ⟨⟨hs9.cell hS6.1 (by simp; omega), hs9.cell hS6.2.1 (by simp; omega), hs9.cell hS6.2.2 (by simp; omega)⟩, ?_⟩
        simp only [Act.put, List.setIfInBounds_toArray, List.set_cons_zero, List.set_cons_succ]
        refine wpAnyH_done (by kernel_rfl) ?_ _
        have n2 := (x2.set 1 (.slice (some ⟨g', 0, none⟩) (k + 1) gc')).congr (g := c4 (.int .i64 2) (.slice (some ⟨g', 0, none⟩) (k + 1) gc') (.int .i64 0) (.int .i64 0)) (fun j hj => by
          have : j = 0 ∨ j = 1 ∨ j = 2 ∨ j = 3 := by omega
          rcases this with rfl | rfl | rfl | rfl <;> rfl)
        have n1 := x1.other (c := w.heap.size + 1) (i := 1) (by omega) (.slice (some ⟨g', 0, none⟩) (k + 1) gc')
        have nI := xI.grown hs9 (by simp; omega)
        have nO := hown6.grown hs9 (fun x e => by have := (hown6.at e).1; simp; omega)
        have hsz6 : wr.heap.size ≤ w6.heap.size := by have := hgrow.size; simp at this; omega
        have hsz9 : w1.heap.size ≤ (w6.setCell ⟨w.heap.size + 1, 1, none⟩ (.slice (some ⟨g', 0, none⟩) (k + 1) gc')).heap.size := by have := hs9.size; omega
        have nB0 := (hB.drew.alloc (o := (.cells #[.int .i64 (tri ns (k * 3)), .int .i64 (tri ns (k * 3 + 1)), .int .i64 (tri ns (k * 3 + 2))] 82)) (by have := hB.size; simp; omega)).grown hgrow (by have := hB.size; simp; omega) (fun x e => by have := hne x e; omega)
        have nB := nB0.setCell (p := ⟨w.heap.size + 1, 1, none⟩) (by simp) (.slice (some ⟨g', 0, none⟩) (k + 1) gc')
        clear x1 x2 xI y1 z1 hS6 hS1 hS0 hba hs9 hgrow hown6 hr6 nB0 hOd v1 v2 hO hI c0 c1 c2 b1 bz hB
        generalize w6.setCell ⟨w.heap.size + 1, 1, none⟩ (.slice (some ⟨g', 0, none⟩) (k + 1) gc') = X9 at n1 n2 nI nO nB hsz9 ⊢
        go_wp2_with fail
        go_roundw
        case rel => exact ⟨m + 3, k + 1, gc', some ⟨g', 0, none⟩, by show _ = _; have := HM.out; omega, by omega, by go_num, n2, n1, nO, nI, hsz9, hgl, nB⟩
        case measure => simp [intOf]; omega
      · skip
        refine wp_of_made (v := .slice (some ⟨wr.heap.size, 0, none⟩) 1 1) (w' := wr.drew.alloc (.cells #[.int .i64 (tri ns (k * 3)), .int .i64 (tri ns (k * 3 + 1)), .int .i64 (tri ns (k * 3 + 2))] 82)) (by go_simp) ?_
        refine ⟨hS1, ?_⟩
        simp only [Act.put, List.setIfInBounds_toArray, List.set_cons_zero, List.set_cons_succ]
        have b2 : (wr.alloc (.cells #[.int .i64 (tri ns (k * 3)), .int .i64 (tri ns (k * 3 + 1)), .int .i64 (tri ns (k * 3 + 2))] 82)).cell? ⟨w.heap.size + 1, 1, none⟩ = some (.slice go k gc) := keep_cell ((Below.refl wr.heap.size wr).alloc (Nat.le_refl _) _) (Nat.le_refl _) b1
        refine step1H 1 _ rfl (by kernel_rfl) (by rfl) ?_
        refine wp_of_run (v := .slice go k gc) (by go_simp) ?_
        refine ⟨hS1, ?_⟩
        simp only [Act.put, List.setIfInBounds_toArray, List.set_cons_zero, List.set_cons_succ]
        clear b2
        refine step1H 18 _ rfl (by kernel_rfl) (by rfl) ?_
        refine wp_append_known (.tmp 77) (.tmp 93) rfl w1.heap.size k gc go (tri ns) rfl (hOd.next hba) wr.heap.size rfl (Go.Deep.blk_alloc_new _ _) hkb (by simp; omega) ?_
        intro g' gc' w6 hown6 hgrow hr6
        have hne : ∀ x, (Value.slice go k gc).ownBlock = some x → w1.heap.size ≤ x := fun x e => (hO.at e).1
        have hS6 : (fun X : World => X.cell? ⟨g, m, none⟩ = some (.int .i64 (tri ns (k * 3))) ∧ X.cell? ⟨g, m + 1, none⟩ = some (.int .i64 (tri ns (k * 3 + 1))) ∧ X.cell? ⟨g, m + 2, none⟩ = some (.int .i64 (tri ns (k * 3 + 2)))) w6 := ⟨hgrow.cell hS1.1 (fun e => by have := hne g e.symm; omega), hgrow.cell hS1.2.1 (fun e => by have := hne g e.symm; omega), hgrow.cell hS1.2.2 (fun e => by have := hne g e.symm; omega)⟩
        refine ⟨hS6, ?_⟩
        simp only [Act.put, List.setIfInBounds_toArray, List.set_cons_zero, List.set_cons_succ]
        have x2 := ((v2.next (Below.refl _ wr).drew).next hba).grown hgrow (fun e => by have := hne _ e.symm; omega)
        have x1 := ((v1.next (Below.refl _ wr).drew).next hba).grown hgrow (fun e => by have := hne _ e.symm; omega)
        have xI := ((hI.below (Below.refl wr.heap.size wr).drew hI.lt).below hba hI.lt).grown hgrow (fun e => by have := hne _ e.symm; omega)
        have y1 : w6.cell? ⟨w.heap.size + 1, 1, none⟩ = some (.slice go k gc) := x2.cell (j := 1) (by omega)
        have z1 := x2.frozen 1
        refine takeH 19 (some 95) (.pointer (some ⟨w.heap.size + 1, 1, none⟩)) rfl rfl (by kernel_rfl) (by kernel_rfl) (by kernel_rfl) (fun _ _ _ h => h) (by rfl) hS6 (fun V hV => by obtain ⟨v1, v2, v3⟩ := hV; go_simp) ?_
        simp only [Act.put, List.setIfInBounds_toArray, List.set_cons_zero, List.set_cons_succ]
        refine step1H 20 _ rfl (by kernel_rfl) (by rfl) ?_
        refine wp_of_skip (w' := w6.setCell ⟨w.heap.size + 1, 1, none⟩ (.slice (some ⟨g', 0, none⟩) (k + 1) gc')) (by go_simp) ?_
        have hs9 := gr_setCell w6 (w.heap.size + 1) 1 (.slice (some ⟨g', 0, none⟩) (k + 1) gc')
        refine ⟨⟨hs9.cell hS6.1 (by simp; omega), hs9.cell hS6.2.1 (by simp; omega), hs9.cell hS6.2.2 (by simp; omega)⟩, ?_⟩
        simp only [Act.put, List.setIfInBounds_toArray, List.set_cons_zero, List.set_cons_succ]
        refine wpAnyH_done (by kernel_rfl) ?_ _
        have n2 := (x2.set 1 (.slice (some ⟨g', 0, none⟩) (k + 1) gc')).congr (g := c4 (.int .i64 2) (.slice (some ⟨g', 0, none⟩) (k + 1) gc') (.int .i64 0) (.int .i64 0)) (fun j hj => by
          have : j = 0 ∨ j = 1 ∨ j = 2 ∨ j = 3 := by omega
          rcases this with rfl | rfl | rfl | rfl <;> rfl)
        have n1 := x1.other (c := w.heap.size + 1) (i := 1) (by omega) (.slice (some ⟨g', 0, none⟩) (k + 1) gc')
        have nI := xI.grown hs9 (by simp; omega)
        have nO := hown6.grown hs9 (fun x e => by have := (hown6.at e).1; simp; omega)
        have hsz6 : wr.heap.size ≤ w6.heap.size := by have := hgrow.size; simp at this; omega
        have hsz9 : w1.heap.size ≤ (w6.setCell ⟨w.heap.size + 1, 1, none⟩ (.slice (some ⟨g', 0, none⟩) (k + 1) gc')).heap.size := by have := hs9.size; omega
        have nB0 := (hB.drew.alloc (o := (.cells #[.int .i64 (tri ns (k * 3)), .int .i64 (tri ns (k * 3 + 1)), .int .i64 (tri ns (k * 3 + 2))] 82)) (by have := hB.size; simp; omega)).grown hgrow (by have := hB.size; simp; omega) (fun x e => by have := hne x e; omega)
        have nB := nB0.setCell (p := ⟨w.heap.size + 1, 1, none⟩) (by simp) (.slice (some ⟨g', 0, none⟩) (k + 1) gc')
        clear x1 x2 xI y1 z1 hS6 hS1 hS0 hba hs9 hgrow hown6 hr6 nB0 hOd v1 v2 hO hI c0 c1 c2 b1 bz hB
        generalize w6.setCell ⟨w.heap.size + 1, 1, none⟩ (.slice (some ⟨g', 0, none⟩) (k + 1) gc') = X9 at n1 n2 nI nO nB hsz9 ⊢
        go_wp2_with fail
        go_roundw
        case rel => exact ⟨m + 3, k + 1, gc', some ⟨g', 0, none⟩, by show _ = _; have := HM.out; omega, by omega, by go_num, n2, n1, nO, nI, hsz9, hgl, nB⟩
        case measure => simp [intOf]; omega
    · have hk := HM.out
      have h3 := HL.out
      have hmn : m = ns.length := by omega
      have hk3 : ns.length / 3 = k := by omega
      have hlt0 : ¬ (m : Int) < (ns.length : Int) := by omega
      have HK : Hid (ns.length / 3 = k) := hk3
      clear hk h3 hk3
      have s0 : wr.cell? ⟨w.heap.size + 1, 0, none⟩ = some (.int .i64 2) := v2.cell (j := 0) (by omega)
      have s1 : wr.cell? ⟨w.heap.size + 1, 1, none⟩ = some (.slice go k gc) := v2.cell (j := 1) (by omega)
      have s2 : wr.cell? ⟨w.heap.size + 1, 2, none⟩ = some (.int .i64 0) := v2.cell (j := 2) (by omega)
      have s3 : wr.cell? ⟨w.heap.size + 1, 3, none⟩ = some (.int .i64 0) := v2.cell (j := 3) (by omega)
      go_wp2_with fail
      refine (specCommandOk_any 2 go k gc (at3 ns 0) (at3 ns 1) (at3 ns 2) 0 0 (by have := HK.out; omega) _ (hO.owns.row)).mono ?_
      rintro e w2 ⟨rfl, hb2⟩
      have hkk : cmdB 2 k (at3 ns 0) (at3 ns 1) (at3 ns 2) 0 0 = okC 2 ns := by simp [okC, HK.out]
      rw [hkk]
      clear hkk s0 s1 s2 s3
      replace v1 := v1.next hb2
      replace v2 := v2.next hb2
      replace hB := below_next hB (Nat.le_refl _) hb2
      have hOS := (hO.next hb2).owns
      have s0 : w2.cell? ⟨w.heap.size + 1, 0, none⟩ = some (.int .i64 2) := v2.cell (j := 0) (by omega)
      have s1 : w2.cell? ⟨w.heap.size + 1, 1, none⟩ = some (.slice go k gc) := v2.cell (j := 1) (by omega)
      have s2 : w2.cell? ⟨w.heap.size + 1, 2, none⟩ = some (.int .i64 0) := v2.cell (j := 2) (by omega)
      have s3 : w2.cell? ⟨w.heap.size + 1, 3, none⟩ = some (.int .i64 0) := v2.cell (j := 3) (by omega)
      have r0 := v1.cell (j := 0) (by omega)
      have r1 := v1.cell (j := 1) (by omega)
      have r2 := v1.cell (j := 2) (by omega)
      have r3 := v1.cell (j := 3) (by omega)
      have fz := fun j => v1.frozen j
      clear hb2 v2 hO hI
      cases hok : okC 2 ns
      · have HE : Hid (R = none) := by
          show _ = _
          rw [HR2.out, hok]
          rfl
        clear HR2
        go_wp2
        obtain ⟨q0, q1, q2, q3⟩ := st4 v1 (.int .i64 0) (.slice none 0 0) (.int .i64 0) (.int .i64 0)
        exact bodyPost_ret (v := .tuple #[.agg #[.int .i64 0, .slice none 0 0, .int .i64 0, .int .i64 0], .bool false]) (by simp [results, Tryd.results33, go_sem, q0, q1, q2, q3]) rfl (by rw [HE.out]; exact ⟨none, 0, rfl, owns_none _ _ _ _, st4_below hB (Nat.le_refl _) _ _ _ _⟩)
      · have HE : Hid (R = some (2, ns)) := by
          show _ = _
          rw [HR2.out, hok]
          rfl
        clear HR2
        go_wp2
        obtain ⟨q0, q1, q2, q3⟩ := st4 v1 (.int .i64 2) (.slice go k gc) (.int .i64 0) (.int .i64 0)
        exact bodyPost_ret (v := .tuple #[.agg #[.int .i64 2, .slice go k gc, .int .i64 0, .int .i64 0], .bool true]) (by simp [results, Tryd.results33, go_sem, q0, q1, q2, q3]) rfl (by rw [HE.out]; exact cans_weigh HK.out ((hOS.from (by omega)).of_st4 (fun h0 a e => by obtain ⟨b, e2, hb, _⟩ := hOS 0 h0; rw [e] at e2; cases e2; simp; omega) _ _ _ _) (st4_below hB (Nat.le_refl _) _ _ _ _))

end Go.Proofs.YticckgmkhgnmfaaDoor
