/-
  Helpers, merged: RdW, RdJ, GrP, GrQ, Num, Bytes, ShowB, GrR.
-/
import Derived.Test.YtcmeppjfjledfacDoorPack3
import Derived.Test.YtcmeppjfjledfacDoorPack1
import Derived.Lib.ParseIntB
import Derived.Lib.ItoaMem
import Derived.Lib.Split
import Derived.Test.YtcmeppjfjledfacDoorShelf
import Derived.Lib.AppendIntMem
import Derived.Laws.BytesString
import Derived.Laws.IdiomStrings
import Derived.Deep.Upon
import Derived.Laws.IdiomCopy
/-
  The document's ReadCommand of a text that begins with weigh and a blank.
-/
set_option linter.unusedVariables false
set_option linter.unusedSimpArgs false
namespace Go.Proofs.YtcmeppjfjledfacDoor
open Go.RowKit Go.Maps
attribute [local go_sem ↓] Go.wp_at_zero Go.wp_at_succ

set_option maxHeartbeats 8000000 in
set_option maxRecDepth 20000 in
theorem specRead_weigh (s : ByteArray) (hs : s.size ≤ 1048576) (hN : (s.toList == [110, 111, 110, 101]) = false) (h6 : 6 < s.size) (hA : ((s.extract 0 4).toList == [97, 115, 107, 32]) = false) (hW : ((s.extract 0 6).toList == [119, 101, 105, 103, 104, 32]) = true) (w : World) :
    Calls Tryd.prog 13 #[.string s] w fun e w' => CAns w w' e (onlyOk (weighR (snums (s.data.toList.drop 6) [] []))) := by
  obtain ⟨v1, v2, hB, hsz⟩ := c4_two w (.int .i64 0) (.slice none 0 0) (.int .i64 0) (.int .i64 0) (.int .i64 0) (.slice none 0 0) (.int .i64 0) (.int .i64 0) 26
  have h4' : (4 : Int) < (s.size : Int) := by omega
  have h6' : (6 : Int) < (s.size : Int) := by omega
  have HNU : Hid (∀ W, Calls Tryd.prog 44 #[.string (s.extract 6 s.size)] W fun e w' => NAns W w' e (snums (s.data.toList.drop 6) [] [])) := fun W => by
    have := l1Numbers_any (s.extract 6 s.size) (by simp; omega) W
    rwa [extract_list, List.take_of_length_le (by simp)] at this
  generalize snums (s.data.toList.drop 6) [] [] = T at HNU ⊢
  obtain ⟨R, hR⟩ : ∃ R, R = onlyOk (weighR T) := ⟨_, rfl⟩
  rw [← hR]
  have HR : Hid (R = onlyOk (weighR T)) := hR
  clear hR
  go_enter Tryd.func13, Tryd.ntmps13
  go_wp2_with fail
  generalize ((w.alloc (.cells #[.int .i64 0, .slice none 0 0, .int .i64 0, .int .i64 0] 26)).alloc (.cells #[.int .i64 0, .slice none 0 0, .int .i64 0, .int .i64 0] 26)) = W at v1 v2 hB hsz ⊢
  refine (HNU.out _).mono ?_
  rintro e w1 ⟨ns, ok, g, cap, rfl, hT, hln, hown, hb1⟩
  replace v1 := v1.next hb1
  replace v2 := v2.next hb1
  replace hB := below_next hB (Nat.le_refl _) hb1
  have r0 := v1.cell (j := 0) (by omega)
  have r1 := v1.cell (j := 1) (by omega)
  have r2 := v1.cell (j := 2) (by omega)
  have r3 := v1.cell (j := 3) (by omega)
  have fz := fun j => v1.frozen j
  clear hb1 HNU
  have hbad : (ok = false ∨ (ok = true ∧ ns.length % 3 ≠ 0)) ∨ (ok = true ∧ ns.length % 3 = 0) := by
    cases ok
    · exact .inl (.inl rfl)
    · by_cases h : ns.length % 3 = 0
      · exact .inr ⟨rfl, h⟩
      · exact .inl (.inr ⟨rfl, h⟩)
  rcases hbad with hbad | ⟨rfl, hl2⟩
  · have HE : Hid (R = none) := by
      show _ = _
      rw [HR.out]
      rcases hT with ⟨h1, h2⟩ | ⟨h1, h2⟩
      · rcases hbad with h3 | ⟨_, h3⟩
        · rw [h1] at h3; cases h3
        · rw [h2]; simp [h3, onlyOk, weighR]
      · rw [h2]; rfl
    clear v2 HR hT
    rcases hbad with rfl | ⟨rfl, hl2⟩
    · go_wp2
      obtain ⟨q0, q1, q2, q3⟩ := st4 v1 (.int .i64 0) (.slice none 0 0) (.int .i64 0) (.int .i64 0)
      exact bodyPost_ret (v := .tuple #[.agg #[.int .i64 0, .slice none 0 0, .int .i64 0, .int .i64 0], .bool false]) (by simp [results, Tryd.results13, go_sem, q0, q1, q2, q3]) rfl (by rw [HE.out]; exact ⟨none, 0, rfl, owns_none _ _ _ _, st4_below hB (Nat.le_refl _) _ _ _ _⟩)
    · have hl2' : ((ns.length : Int) % 3 != 0) = true := by simp; omega
      have hl3 : ¬ (ns.length : Int) % 3 = 0 := by omega
      clear hl2
      go_wp2
      obtain ⟨q0, q1, q2, q3⟩ := st4 v1 (.int .i64 0) (.slice none 0 0) (.int .i64 0) (.int .i64 0)
      exact bodyPost_ret (v := .tuple #[.agg #[.int .i64 0, .slice none 0 0, .int .i64 0, .int .i64 0], .bool false]) (by simp [results, Tryd.results13, go_sem, q0, q1, q2, q3]) rfl (by rw [HE.out]; exact ⟨none, 0, rfl, owns_none _ _ _ _, st4_below hB (Nat.le_refl _) _ _ _ _⟩)
  have HR2 : Hid (R = if okC 2 ns = true then some (2, ns) else none) := by
    show _ = _
    rw [HR.out]
    rcases hT with ⟨_, h2⟩ | ⟨h1, _⟩
    · rw [h2]; simp [weighR, hl2, onlyOk]
    · cases h1
  clear HR hT
  have gb := hown.base
  have gl := hown.lt
  have hI := hown.has
  have HL : Hid (ns.length % 3 = 0) := hl2
  have hl3 : (ns.length : Int) % 3 = 0 := by omega
  clear hown hl2 r0 r1 r2 r3 fz
  have hw1 := hB.size
  have t0 : w1.cell? ⟨w.heap.size + 1, 0, none⟩ = some (.int .i64 0) := v2.cell (j := 0) (by omega)
  have fz2 := fun j => v2.frozen j
  have v2' := (v2.set 0 (.int .i64 2)).congr (g := c4 (.int .i64 2) (.slice none 0 0) (.int .i64 0) (.int .i64 0)) (fun j hj => by
    have : j = 0 ∨ j = 1 ∨ j = 2 ∨ j = 3 := by omega
    rcases this with rfl | rfl | rfl | rfl <;> rfl)
  have v1' := v1.other (c := w.heap.size + 1) (i := 0) (by omega) (.int .i64 2)
  have hB' := hB.setCell (p := ⟨w.heap.size + 1, 0, none⟩) (by simp) (.int .i64 2)
  have hI' := hI.of_block (w' := w1.setCell ⟨w.heap.size + 1, 0, none⟩ (.int .i64 2)) (Below.heap_setCell _ _ _ _ (by simp; omega))
  have hs' : (w1.setCell ⟨w.heap.size + 1, 0, none⟩ (.int .i64 2)).heap.size = w1.heap.size := by simp [World.setCell]
  clear v1 v2 hB hI
  go_wp2
  generalize w1.setCell ⟨w.heap.size + 1, 0, none⟩ (.int .i64 2) = X at v1' v2' hB' hI' hs' ⊢
  clear t0 fz2 hl3
  go_loopw [9] (fun x wr => ∃ (m k gc : Nat) (go : Option Addr), Hid (m = 3 * k) ∧ m ≤ ns.length ∧ x = .int .i64 m ∧ VHas wr (w.heap.size + 1) 26 4 (c4 (.int .i64 2) (.slice go k gc) (.int .i64 0) (.int .i64 0)) ∧ VHas wr w.heap.size 26 4 (c4 (.int .i64 0) (.slice none 0 0) (.int .i64 0) (.int .i64 0)) ∧ OwnA wr w1.heap.size go k gc (tri ns) ∧ IHas wr g ns.length (gd ns) ∧ w1.heap.size ≤ wr.heap.size ∧ g < w1.heap.size ∧ Below w.heap.size w wr) (fun x _ => ns.length - (intOf x).toNat)
  case atStart => exact ⟨0, 0, 0, none, rfl, Nat.zero_le _, rfl, v2', v1', OwnA.nil _ _ _, hI', Nat.le_of_eq hs'.symm, gl, hB'⟩
  case round =>
    clear v1' v2' hB' hI' hs'
    obtain ⟨m, k, gc, go, HM, hm, rfl, v2, v1, hO, hI, hsz1, hgl, hB⟩ := hrel
    by_cases hlt : m < ns.length
    · have hk := HM.out
      have h3 := HL.out
      have hlt0 : (m : Int) < (ns.length : Int) := by omega
      have hlt1 : (m : Int) + 1 < (ns.length : Int) := by omega
      have hlt2 : (m : Int) + 2 < (ns.length : Int) := by omega
      have hm0 : (0 : Int) ≤ (m : Int) := by omega
      have c0 : wr.cell? ⟨g, m, none⟩ = some (.int .i64 (tri ns (k * 3))) := by
        rw [tri0, ← hk]
        exact hI.cell (j := m) (by omega)
      have c1 : wr.cell? ⟨g, m + 1, none⟩ = some (.int .i64 (tri ns (k * 3 + 1))) := by
        rw [tri1, ← hk]
        exact hI.cell (j := m + 1) (by omega)
      have c2 : wr.cell? ⟨g, m + 2, none⟩ = some (.int .i64 (tri ns (k * 3 + 2))) := by
        rw [tri2, ← hk]
        exact hI.cell (j := m + 2) (by omega)
      have b1 : wr.cell? ⟨w.heap.size + 1, 1, none⟩ = some (.slice go k gc) := v2.cell (j := 1) (by omega)
      have bz := v2.frozen 1
      have hOd := hO.next (Below.refl _ wr).drew
      have hkb : k ≤ 10000000 := by omega
      have hq1 : IntKind.i64.wrap ((m : Int) + 1) = (m : Int) + 1 := by rw [IntKind.wrap_i64]; omega
      have hq2 : IntKind.i64.wrap ((m : Int) + 2) = (m : Int) + 2 := by rw [IntKind.wrap_i64]; omega
      have hp1 : (0 : Int) ≤ (m : Int) + 1 := by omega
      have hp2 : (0 : Int) ≤ (m : Int) + 2 := by omega
      have hn1 : ((m : Int) + 1).toNat = m + 1 := by omega
      have hn2 : ((m : Int) + 2).toNat = m + 2 := by omega
      clear hk h3
      go_wp2_with fail
      refine wp_region_held_drew (S := (fun X : World => X.cell? ⟨g, m, none⟩ = some (.int .i64 (tri ns (k * 3))) ∧ X.cell? ⟨g, m + 1, none⟩ = some (.int .i64 (tri ns (k * 3 + 1))) ∧ X.cell? ⟨g, m + 2, none⟩ = some (.int .i64 (tri ns (k * 3 + 2))))) (by kernel_rfl) ⟨c0, c1, c2⟩ (fun hS0 => ?_)
      refine takeH 0 (some 76) (.pointer (some ⟨w.heap.size + 1, 1, none⟩)) rfl rfl (by kernel_rfl) (by kernel_rfl) (by kernel_rfl) (fun _ _ _ h => h) (by rfl) hS0 (fun V hV => by obtain ⟨v1, v2, v3⟩ := hV; go_simp) ?_
      simp only [Act.put, List.setIfInBounds_toArray, List.set_cons_zero, List.set_cons_succ]
      refine takeH 2 (some 78) (.slice (some ⟨g, 0, none⟩) ns.length cap) rfl rfl (by kernel_rfl) (by kernel_rfl) (by kernel_rfl) (fun _ _ _ h => h) (by rfl) hS0 (fun V hV => by obtain ⟨v1, v2, v3⟩ := hV; go_simp) ?_
      simp only [Act.put, List.setIfInBounds_toArray, List.set_cons_zero, List.set_cons_succ]
      refine takeH 3 (some 79) (.int .i64 (m : Int)) rfl rfl (by kernel_rfl) (by kernel_rfl) (by kernel_rfl) (fun _ _ _ h => h) (by rfl) hS0 (fun V hV => by obtain ⟨v1, v2, v3⟩ := hV; go_simp) ?_
      simp only [Act.put, List.setIfInBounds_toArray, List.set_cons_zero, List.set_cons_succ]
      refine takeH 4 (some 80) (.pointer (some ⟨g, m, none⟩)) rfl rfl (by kernel_rfl) (by kernel_rfl) (by kernel_rfl) (fun _ _ _ h => h) (by rfl) hS0 (fun V hV => by obtain ⟨v1, v2, v3⟩ := hV; go_simp) ?_
      simp only [Act.put, List.setIfInBounds_toArray, List.set_cons_zero, List.set_cons_succ]
      refine takeH 5 (some 81) (.int .i64 (tri ns (k * 3))) rfl rfl (by kernel_rfl) (by kernel_rfl) (by kernel_rfl) (fun _ _ _ h => h) (by rfl) hS0 (fun V hV => by obtain ⟨v1, v2, v3⟩ := hV; go_simp) ?_
      simp only [Act.put, List.setIfInBounds_toArray, List.set_cons_zero, List.set_cons_succ]
      refine takeH 6 (some 82) (.slice (some ⟨g, 0, none⟩) ns.length cap) rfl rfl (by kernel_rfl) (by kernel_rfl) (by kernel_rfl) (fun _ _ _ h => h) (by rfl) hS0 (fun V hV => by obtain ⟨v1, v2, v3⟩ := hV; go_simp) ?_
      simp only [Act.put, List.setIfInBounds_toArray, List.set_cons_zero, List.set_cons_succ]
      refine takeH 7 (some 83) (.int .i64 (m : Int)) rfl rfl (by kernel_rfl) (by kernel_rfl) (by kernel_rfl) (fun _ _ _ h => h) (by rfl) hS0 (fun V hV => by obtain ⟨v1, v2, v3⟩ := hV; go_simp) ?_
      simp only [Act.put, List.setIfInBounds_toArray, List.set_cons_zero, List.set_cons_succ]
      refine takeH 8 (some 84) (.int .i64 ((m : Int) + 1)) rfl rfl (by kernel_rfl) (by kernel_rfl) (by kernel_rfl) (fun _ _ _ h => h) (by rfl) hS0 (fun V hV => by obtain ⟨v1, v2, v3⟩ := hV; go_simp) ?_
      simp only [Act.put, List.setIfInBounds_toArray, List.set_cons_zero, List.set_cons_succ]
      refine takeH 9 (some 85) (.pointer (some ⟨g, m + 1, none⟩)) rfl rfl (by kernel_rfl) (by kernel_rfl) (by kernel_rfl) (fun _ _ _ h => h) (by rfl) hS0 (fun V hV => by obtain ⟨v1, v2, v3⟩ := hV; go_simp) ?_
      simp only [Act.put, List.setIfInBounds_toArray, List.set_cons_zero, List.set_cons_succ]
      refine takeH 10 (some 86) (.int .i64 (tri ns (k * 3 + 1))) rfl rfl (by kernel_rfl) (by kernel_rfl) (by kernel_rfl) (fun _ _ _ h => h) (by rfl) hS0 (fun V hV => by obtain ⟨v1, v2, v3⟩ := hV; go_simp) ?_
      simp only [Act.put, List.setIfInBounds_toArray, List.set_cons_zero, List.set_cons_succ]
      refine takeH 11 (some 87) (.slice (some ⟨g, 0, none⟩) ns.length cap) rfl rfl (by kernel_rfl) (by kernel_rfl) (by kernel_rfl) (fun _ _ _ h => h) (by rfl) hS0 (fun V hV => by obtain ⟨v1, v2, v3⟩ := hV; go_simp) ?_
      simp only [Act.put, List.setIfInBounds_toArray, List.set_cons_zero, List.set_cons_succ]
      refine takeH 12 (some 88) (.int .i64 (m : Int)) rfl rfl (by kernel_rfl) (by kernel_rfl) (by kernel_rfl) (fun _ _ _ h => h) (by rfl) hS0 (fun V hV => by obtain ⟨v1, v2, v3⟩ := hV; go_simp) ?_
      simp only [Act.put, List.setIfInBounds_toArray, List.set_cons_zero, List.set_cons_succ]
      refine takeH 13 (some 89) (.int .i64 ((m : Int) + 2)) rfl rfl (by kernel_rfl) (by kernel_rfl) (by kernel_rfl) (fun _ _ _ h => h) (by rfl) hS0 (fun V hV => by obtain ⟨v1, v2, v3⟩ := hV; go_simp) ?_
      simp only [Act.put, List.setIfInBounds_toArray, List.set_cons_zero, List.set_cons_succ]
      refine takeH 14 (some 90) (.pointer (some ⟨g, m + 2, none⟩)) rfl rfl (by kernel_rfl) (by kernel_rfl) (by kernel_rfl) (fun _ _ _ h => h) (by rfl) hS0 (fun V hV => by obtain ⟨v1, v2, v3⟩ := hV; go_simp) ?_
      simp only [Act.put, List.setIfInBounds_toArray, List.set_cons_zero, List.set_cons_succ]
      refine takeH 15 (some 91) (.int .i64 (tri ns (k * 3 + 2))) rfl rfl (by kernel_rfl) (by kernel_rfl) (by kernel_rfl) (fun _ _ _ h => h) (by rfl) hS0 (fun V hV => by obtain ⟨v1, v2, v3⟩ := hV; go_simp) ?_
      simp only [Act.put, List.setIfInBounds_toArray, List.set_cons_zero, List.set_cons_succ]
      refine takeH 16 (some 92) (.agg #[.int .i64 (tri ns (k * 3)), .int .i64 (tri ns (k * 3 + 1)), .int .i64 (tri ns (k * 3 + 2))]) rfl rfl (by kernel_rfl) (by kernel_rfl) (by kernel_rfl) (fun _ _ _ h => h) (by rfl) hS0 (fun V hV => by obtain ⟨v1, v2, v3⟩ := hV; go_simp) ?_
      simp only [Act.put, List.setIfInBounds_toArray, List.set_cons_zero, List.set_cons_succ]
      have hba := (Below.refl wr.drew.heap.size wr.drew).alloc (Nat.le_refl _) (.cells #[.int .i64 (tri ns (k * 3)), .int .i64 (tri ns (k * 3 + 1)), .int .i64 (tri ns (k * 3 + 2))] 50)
      have hS1 : (fun X : World => X.cell? ⟨g, m, none⟩ = some (.int .i64 (tri ns (k * 3))) ∧ X.cell? ⟨g, m + 1, none⟩ = some (.int .i64 (tri ns (k * 3 + 1))) ∧ X.cell? ⟨g, m + 2, none⟩ = some (.int .i64 (tri ns (k * 3 + 2)))) (wr.drew.alloc (.cells #[.int .i64 (tri ns (k * 3)), .int .i64 (tri ns (k * 3 + 1)), .int .i64 (tri ns (k * 3 + 2))] 50)) := ⟨keep_cell hba (Nat.le_refl _) c0, keep_cell hba (Nat.le_refl _) c1, keep_cell hba (Nat.le_refl _) c2⟩
      have hm1 : wr.drew.heap.size = wr.heap.size := rfl
      refine step2H 1 17 _ _ rfl rfl (by kernel_rfl) (by rfl) (by rfl) ?_ ?_
      · skip
        refine wp_of_run (v := .slice go k gc) (by go_simp) ?_
        refine ⟨hS0, ?_⟩
        simp only [Act.put, List.setIfInBounds_toArray, List.set_cons_zero, List.set_cons_succ]
        refine step1H 17 _ rfl (by kernel_rfl) (by rfl) ?_
        refine wp_of_made (v := .slice (some ⟨wr.heap.size, 0, none⟩) 1 1) (w' := wr.drew.alloc (.cells #[.int .i64 (tri ns (k * 3)), .int .i64 (tri ns (k * 3 + 1)), .int .i64 (tri ns (k * 3 + 2))] 50)) (by go_simp) ?_
        refine ⟨hS1, ?_⟩
        simp only [Act.put, List.setIfInBounds_toArray, List.set_cons_zero, List.set_cons_succ]
        refine step1H 18 _ rfl (by kernel_rfl) (by rfl) ?_
        refine wp_append_known (.tmp 77) (.tmp 93) rfl w1.heap.size k gc go (tri ns) rfl (hOd.next hba) wr.heap.size rfl (Go.Deep.blk_alloc_new _ _) hkb (by simp; omega) ?_
        intro g' gc' w6 hown6 hgrow hr6
        have hne : ∀ x, (Value.slice go k gc).ownBlock = some x → w1.heap.size ≤ x := fun x e => (hO.at e).1
        have hS6 : (fun X : World => X.cell? ⟨g, m, none⟩ = some (.int .i64 (tri ns (k * 3))) ∧ X.cell? ⟨g, m + 1, none⟩ = some (.int .i64 (tri ns (k * 3 + 1))) ∧ X.cell? ⟨g, m + 2, none⟩ = some (.int .i64 (tri ns (k * 3 + 2)))) w6 := ⟨hgrow.cell hS1.1 (fun e => by have := hne g e.symm; omega), hgrow.cell hS1.2.1 (fun e => by have := hne g e.symm; omega), hgrow.cell hS1.2.2 (fun e => by have := hne g e.symm; omega)⟩
        refine ⟨hS6, ?_⟩
        simp only [Act.put, List.setIfInBounds_toArray, List.set_cons_zero, List.set_cons_succ]
        have x2 := ((v2.next (Below.refl _ wr).drew).next hba).grown hgrow (fun e => by have := hne _ e.symm; omega)
        have x1 := ((v1.next (Below.refl _ wr).drew).next hba).grown hgrow (fun e => by have := hne _ e.symm; omega)
        have xI := ((hI.below (Below.refl wr.heap.size wr).drew hI.lt).below hba hI.lt).grown hgrow (fun e => by have := hne _ e.symm; omega)
        have y1 : w6.cell? ⟨w.heap.size + 1, 1, none⟩ = some (.slice go k gc) := x2.cell (j := 1) (by omega)
        have z1 := x2.frozen 1
        refine takeH 19 (some 95) (.pointer (some ⟨w.heap.size + 1, 1, none⟩)) rfl rfl (by kernel_rfl) (by kernel_rfl) (by kernel_rfl) (fun _ _ _ h => h) (by rfl) hS6 (fun V hV => by obtain ⟨v1, v2, v3⟩ := hV; go_simp) ?_
        simp only [Act.put, List.setIfInBounds_toArray, List.set_cons_zero, List.set_cons_succ]
        refine step1H 20 _ rfl (by kernel_rfl) (by rfl) ?_
        refine wp_of_skip (w' := w6.setCell ⟨w.heap.size + 1, 1, none⟩ (.slice (some ⟨g', 0, none⟩) (k + 1) gc')) (by go_simp) ?_
        have hs9 := gr_setCell w6 (w.heap.size + 1) 1 (.slice (some ⟨g', 0, none⟩) (k + 1) gc')
        refine ⟨⟨hs9.cell hS6.1 (by simp; omega), hs9.cell hS6.2.1 (by simp; omega), hs9.cell hS6.2.2 (by simp; omega)⟩, ?_⟩
        simp only [Act.put, List.setIfInBounds_toArray, List.set_cons_zero, List.set_cons_succ]
        refine wpAnyH_done (by kernel_rfl) ?_ _
        have n2 := (x2.set 1 (.slice (some ⟨g', 0, none⟩) (k + 1) gc')).congr (g := c4 (.int .i64 2) (.slice (some ⟨g', 0, none⟩) (k + 1) gc') (.int .i64 0) (.int .i64 0)) (fun j hj => by
          have : j = 0 ∨ j = 1 ∨ j = 2 ∨ j = 3 := by omega
          rcases this with rfl | rfl | rfl | rfl <;> rfl)
        have n1 := x1.other (c := w.heap.size + 1) (i := 1) (by omega) (.slice (some ⟨g', 0, none⟩) (k + 1) gc')
        have nI := xI.grown hs9 (by simp; omega)
        have nO := hown6.grown hs9 (fun x e => by have := (hown6.at e).1; simp; omega)
        have hsz6 : wr.heap.size ≤ w6.heap.size := by have := hgrow.size; simp at this; omega
        have hsz9 : w1.heap.size ≤ (w6.setCell ⟨w.heap.size + 1, 1, none⟩ (.slice (some ⟨g', 0, none⟩) (k + 1) gc')).heap.size := by have := hs9.size; omega
        have nB0 := (hB.drew.alloc (o := (.cells #[.int .i64 (tri ns (k * 3)), .int .i64 (tri ns (k * 3 + 1)), .int .i64 (tri ns (k * 3 + 2))] 50)) (by have := hB.size; simp; omega)).grown hgrow (by have := hB.size; simp; omega) (fun x e => by have := hne x e; omega)
        have nB := nB0.setCell (p := ⟨w.heap.size + 1, 1, none⟩) (by simp) (.slice (some ⟨g', 0, none⟩) (k + 1) gc')
        clear x1 x2 xI y1 z1 hS6 hS1 hS0 hba hs9 hgrow hown6 hr6 nB0 hOd v1 v2 hO hI c0 c1 c2 b1 bz hB
        generalize w6.setCell ⟨w.heap.size + 1, 1, none⟩ (.slice (some ⟨g', 0, none⟩) (k + 1) gc') = X9 at n1 n2 nI nO nB hsz9 ⊢
        go_wp2_with fail
        go_roundw
        case rel => exact ⟨m + 3, k + 1, gc', some ⟨g', 0, none⟩, by show _ = _; have := HM.out; omega, by omega, by go_num, n2, n1, nO, nI, hsz9, hgl, nB⟩
        case measure => simp [intOf]; omega
      · skip
        refine wp_of_made (v := .slice (some ⟨wr.heap.size, 0, none⟩) 1 1) (w' := wr.drew.alloc (.cells #[.int .i64 (tri ns (k * 3)), .int .i64 (tri ns (k * 3 + 1)), .int .i64 (tri ns (k * 3 + 2))] 50)) (by go_simp) ?_
        refine ⟨hS1, ?_⟩
        simp only [Act.put, List.setIfInBounds_toArray, List.set_cons_zero, List.set_cons_succ]
        have b2 : (wr.alloc (.cells #[.int .i64 (tri ns (k * 3)), .int .i64 (tri ns (k * 3 + 1)), .int .i64 (tri ns (k * 3 + 2))] 50)).cell? ⟨w.heap.size + 1, 1, none⟩ = some (.slice go k gc) := keep_cell ((Below.refl wr.heap.size wr).alloc (Nat.le_refl _) _) (Nat.le_refl _) b1
        refine step1H 1 _ rfl (by kernel_rfl) (by rfl) ?_
        refine wp_of_run (v := .slice go k gc) (by go_simp) ?_
        refine ⟨hS1, ?_⟩
        simp only [Act.put, List.setIfInBounds_toArray, List.set_cons_zero, List.set_cons_succ]
        clear b2
        refine step1H 18 _ rfl (by kernel_rfl) (by rfl) ?_
        refine wp_append_known (.tmp 77) (.tmp 93) rfl w1.heap.size k gc go (tri ns) rfl (hOd.next hba) wr.heap.size rfl (Go.Deep.blk_alloc_new _ _) hkb (by simp; omega) ?_
        intro g' gc' w6 hown6 hgrow hr6
        have hne : ∀ x, (Value.slice go k gc).ownBlock = some x → w1.heap.size ≤ x := fun x e => (hO.at e).1
        have hS6 : (fun X : World => X.cell? ⟨g, m, none⟩ = some (.int .i64 (tri ns (k * 3))) ∧ X.cell? ⟨g, m + 1, none⟩ = some (.int .i64 (tri ns (k * 3 + 1))) ∧ X.cell? ⟨g, m + 2, none⟩ = some (.int .i64 (tri ns (k * 3 + 2)))) w6 := ⟨hgrow.cell hS1.1 (fun e => by have := hne g e.symm; omega), hgrow.cell hS1.2.1 (fun e => by have := hne g e.symm; omega), hgrow.cell hS1.2.2 (fun e => by have := hne g e.symm; omega)⟩
        refine ⟨hS6, ?_⟩
        simp only [Act.put, List.setIfInBounds_toArray, List.set_cons_zero, List.set_cons_succ]
        have x2 := ((v2.next (Below.refl _ wr).drew).next hba).grown hgrow (fun e => by have := hne _ e.symm; omega)
        have x1 := ((v1.next (Below.refl _ wr).drew).next hba).grown hgrow (fun e => by have := hne _ e.symm; omega)
        have xI := ((hI.below (Below.refl wr.heap.size wr).drew hI.lt).below hba hI.lt).grown hgrow (fun e => by have := hne _ e.symm; omega)
        have y1 : w6.cell? ⟨w.heap.size + 1, 1, none⟩ = some (.slice go k gc) := x2.cell (j := 1) (by omega)
        have z1 := x2.frozen 1
        refine takeH 19 (some 95) (.pointer (some ⟨w.heap.size + 1, 1, none⟩)) rfl rfl (by kernel_rfl) (by kernel_rfl) (by kernel_rfl) (fun _ _ _ h => h) (by rfl) hS6 (fun V hV => by obtain ⟨v1, v2, v3⟩ := hV; go_simp) ?_
        simp only [Act.put, List.setIfInBounds_toArray, List.set_cons_zero, List.set_cons_succ]
        refine step1H 20 _ rfl (by kernel_rfl) (by rfl) ?_
        refine wp_of_skip (w' := w6.setCell ⟨w.heap.size + 1, 1, none⟩ (.slice (some ⟨g', 0, none⟩) (k + 1) gc')) (by go_simp) ?_
        have hs9 := gr_setCell w6 (w.heap.size + 1) 1 (.slice (some ⟨g', 0, none⟩) (k + 1) gc')
        refine ⟨⟨hs9.cell hS6.1 (by simp; omega), hs9.cell hS6.2.1 (by simp; omega), hs9.cell hS6.2.2 (by simp; omega)⟩, ?_⟩
        simp only [Act.put, List.setIfInBounds_toArray, List.set_cons_zero, List.set_cons_succ]
        refine wpAnyH_done (by kernel_rfl) ?_ _
        have n2 := (x2.set 1 (.slice (some ⟨g', 0, none⟩) (k + 1) gc')).congr (g := c4 (.int .i64 2) (.slice (some ⟨g', 0, none⟩) (k + 1) gc') (.int .i64 0) (.int .i64 0)) (fun j hj => by
          have : j = 0 ∨ j = 1 ∨ j = 2 ∨ j = 3 := by omega
          rcases this with rfl | rfl | rfl | rfl <;> rfl)
        have n1 := x1.other (c := w.heap.size + 1) (i := 1) (by omega) (.slice (some ⟨g', 0, none⟩) (k + 1) gc')
        have nI := xI.grown hs9 (by simp; omega)
        have nO := hown6.grown hs9 (fun x e => by have := (hown6.at e).1; simp; omega)
        have hsz6 : wr.heap.size ≤ w6.heap.size := by have := hgrow.size; simp at this; omega
        have hsz9 : w1.heap.size ≤ (w6.setCell ⟨w.heap.size + 1, 1, none⟩ (.slice (some ⟨g', 0, none⟩) (k + 1) gc')).heap.size := by have := hs9.size; omega
        have nB0 := (hB.drew.alloc (o := (.cells #[.int .i64 (tri ns (k * 3)), .int .i64 (tri ns (k * 3 + 1)), .int .i64 (tri ns (k * 3 + 2))] 50)) (by have := hB.size; simp; omega)).grown hgrow (by have := hB.size; simp; omega) (fun x e => by have := hne x e; omega)
        have nB := nB0.setCell (p := ⟨w.heap.size + 1, 1, none⟩) (by simp) (.slice (some ⟨g', 0, none⟩) (k + 1) gc')
        clear x1 x2 xI y1 z1 hS6 hS1 hS0 hba hs9 hgrow hown6 hr6 nB0 hOd v1 v2 hO hI c0 c1 c2 b1 bz hB
        generalize w6.setCell ⟨w.heap.size + 1, 1, none⟩ (.slice (some ⟨g', 0, none⟩) (k + 1) gc') = X9 at n1 n2 nI nO nB hsz9 ⊢
        go_wp2_with fail
        go_roundw
        case rel => exact ⟨m + 3, k + 1, gc', some ⟨g', 0, none⟩, by show _ = _; have := HM.out; omega, by omega, by go_num, n2, n1, nO, nI, hsz9, hgl, nB⟩
        case measure => simp [intOf]; omega
    · have hk := HM.out
      have h3 := HL.out
      have hmn : m = ns.length := by omega
      have hk3 : ns.length / 3 = k := by omega
      have hlt0 : ¬ (m : Int) < (ns.length : Int) := by omega
      have HK : Hid (ns.length / 3 = k) := hk3
      clear hk h3 hk3
      have s0 : wr.cell? ⟨w.heap.size + 1, 0, none⟩ = some (.int .i64 2) := v2.cell (j := 0) (by omega)
      have s1 : wr.cell? ⟨w.heap.size + 1, 1, none⟩ = some (.slice go k gc) := v2.cell (j := 1) (by omega)
      have s2 : wr.cell? ⟨w.heap.size + 1, 2, none⟩ = some (.int .i64 0) := v2.cell (j := 2) (by omega)
      have s3 : wr.cell? ⟨w.heap.size + 1, 3, none⟩ = some (.int .i64 0) := v2.cell (j := 3) (by omega)
      go_wp2_with fail
      refine (specCommandOk_any 2 go k gc (at3 ns 0) (at3 ns 1) (at3 ns 2) 0 0 (by have := HK.out; omega) _ (hO.owns.row)).mono ?_
      rintro e w2 ⟨rfl, hb2⟩
      have hkk : cmdB 2 k (at3 ns 0) (at3 ns 1) (at3 ns 2) 0 0 = okC 2 ns := by simp [okC, HK.out]
      rw [hkk]
      clear hkk s0 s1 s2 s3
      replace v1 := v1.next hb2
      replace v2 := v2.next hb2
      replace hB := below_next hB (Nat.le_refl _) hb2
      have hOS := (hO.next hb2).owns
      have s0 : w2.cell? ⟨w.heap.size + 1, 0, none⟩ = some (.int .i64 2) := v2.cell (j := 0) (by omega)
      have s1 : w2.cell? ⟨w.heap.size + 1, 1, none⟩ = some (.slice go k gc) := v2.cell (j := 1) (by omega)
      have s2 : w2.cell? ⟨w.heap.size + 1, 2, none⟩ = some (.int .i64 0) := v2.cell (j := 2) (by omega)
      have s3 : w2.cell? ⟨w.heap.size + 1, 3, none⟩ = some (.int .i64 0) := v2.cell (j := 3) (by omega)
      have r0 := v1.cell (j := 0) (by omega)
      have r1 := v1.cell (j := 1) (by omega)
      have r2 := v1.cell (j := 2) (by omega)
      have r3 := v1.cell (j := 3) (by omega)
      have fz := fun j => v1.frozen j
      clear hb2 v2 hO hI
      cases hok : okC 2 ns
      · have HE : Hid (R = none) := by
          show _ = _
          rw [HR2.out, hok]
          rfl
        clear HR2
        go_wp2
        obtain ⟨q0, q1, q2, q3⟩ := st4 v1 (.int .i64 0) (.slice none 0 0) (.int .i64 0) (.int .i64 0)
        exact bodyPost_ret (v := .tuple #[.agg #[.int .i64 0, .slice none 0 0, .int .i64 0, .int .i64 0], .bool false]) (by simp [results, Tryd.results13, go_sem, q0, q1, q2, q3]) rfl (by rw [HE.out]; exact ⟨none, 0, rfl, owns_none _ _ _ _, st4_below hB (Nat.le_refl _) _ _ _ _⟩)
      · have HE : Hid (R = some (2, ns)) := by
          show _ = _
          rw [HR2.out, hok]
          rfl
        clear HR2
        go_wp2
        obtain ⟨q0, q1, q2, q3⟩ := st4 v1 (.int .i64 2) (.slice go k gc) (.int .i64 0) (.int .i64 0)
        exact bodyPost_ret (v := .tuple #[.agg #[.int .i64 2, .slice go k gc, .int .i64 0, .int .i64 0], .bool true]) (by simp [results, Tryd.results13, go_sem, q0, q1, q2, q3]) rfl (by rw [HE.out]; exact cans_weigh HK.out ((hOS.from (by omega)).of_st4 (fun h0 a e => by obtain ⟨b, e2, hb, _⟩ := hOS 0 h0; rw [e] at e2; cases e2; simp; omega) _ _ _ _) (st4_below hB (Nat.le_refl _) _ _ _ _))

end Go.Proofs.YtcmeppjfjledfacDoor

/-
  The program's ReadCommand answers as the document's: plainly what the text says. For every text of at most 2^20 bytes.
-/
set_option linter.unusedVariables false
set_option linter.unusedSimpArgs false
namespace Go.Proofs.YtcmeppjfjledfacDoor
open Go.RowKit Go.Maps
attribute [local go_sem ↓] Go.wp_at_zero Go.wp_at_succ

theorem okC_cmd {nm : List UInt8} {ns ns' : List Int} {K : Int} (h : cmdOf nm ns = some (K, ns')) :
    cmdB (kOf (some (K, ns'))) ((lOf (some (K, ns'))).length / 3) (at3 (lOf (some (K, ns'))) 0) (at3 (lOf (some (K, ns'))) 1) (at3 (lOf (some (K, ns'))) 2) (aOf (some (K, ns')) 0) (aOf (some (K, ns')) 1) = okC K ns' := by
  unfold cmdOf at h
  split at h
  · split at h
    · simp at h
      obtain ⟨rfl, rfl⟩ := h
      simp [kOf, lOf, aOf, okC, cmdB]
    · cases h
  split at h
  · split at h
    · simp at h
      obtain ⟨rfl, rfl⟩ := h
      simp [kOf, lOf, aOf, okC]
    · cases h
  split at h
  · split at h
    · simp at h
      obtain ⟨rfl, rfl⟩ := h
      simp [kOf, lOf, aOf, okC, cmdB]
    · cases h
  · cases h

set_option maxHeartbeats 4000000 in
set_option maxRecDepth 20000 in
theorem implRead_any (s : ByteArray) (hs : s.size ≤ 1048576) (w : World) :
    Calls Tryd.prog 10 #[.string s] w fun e w' => CAns w w' e (onlyOk (rdI s.data.toList)) := by
  obtain ⟨R, hR⟩ : ∃ R, R = onlyOk (rdI s.data.toList) := ⟨_, rfl⟩
  rw [← hR]
  have HR : Hid (R = onlyOk (rdI s.data.toList)) := hR
  clear hR
  have v1 := c4_new w (.int .i64 0) (.slice none 0 0) (.int .i64 0) (.int .i64 0) 26
  have hB := (Below.refl w.heap.size w).alloc (Nat.le_refl _) (.cells #[.int .i64 0, .slice none 0 0, .int .i64 0, .int .i64 0] 26)
  go_enter Tryd.func10, Tryd.ntmps10
  go_wp2_with fail
  generalize (w.alloc (.cells #[.int .i64 0, .slice none 0 0, .int .i64 0, .int .i64 0] 26)) = W at v1 hB ⊢
  refine (readWords_any s hs _).mono ?_
  rintro e w1 ⟨nm, ns, ok, go, gc, rfl, hT, h30, hO, hb1⟩
  replace v1 := v1.next hb1
  replace hB := below_next hB (Nat.le_refl _) hb1
  have hl1 := v1.lt
  clear hb1
  rcases hT with ⟨rfl, hT⟩ | ⟨rfl, hT⟩
  rotate_left
  · have HE : Hid (R = none) := by
      show _ = _
      rw [HR.out]
      unfold rdI
      rw [hT]
      rfl
    have r0 := v1.cell (j := 0) (by omega)
    have r1 := v1.cell (j := 1) (by omega)
    have r2 := v1.cell (j := 2) (by omega)
    have r3 := v1.cell (j := 3) (by omega)
    have fz := fun j => v1.frozen j
    clear HR hT
    go_wp2
    obtain ⟨q0, q1, q2, q3⟩ := st4 v1 (.int .i64 0) (.slice none 0 0) (.int .i64 0) (.int .i64 0)
    exact bodyPost_ret (v := .tuple #[.agg #[.int .i64 0, .slice none 0 0, .int .i64 0, .int .i64 0], .bool false]) (by simp [results, Tryd.results10, go_sem, q0, q1, q2, q3]) rfl (by rw [HE.out]; exact ⟨none, 0, rfl, owns_none _ _ _ _, st4_below hB (Nat.le_refl _) _ _ _ _⟩)
  have HR2 : Hid (R = onlyOk (cmdOf nm.data.toList ns)) := by
    show _ = _
    rw [HR.out]
    unfold rdI
    rw [hT]
  clear HR hT
  go_wp2_with fail
  refine (commandOf_any nm go gc _ ns h30 _ hO).mono ?_
  rintro e w2 ⟨K, ao, n, cap, a, b, rfl, hn, hd, hb2⟩
  replace v1 := v1.next hb2
  have hsz1 := hB.size
  replace hB := below_next hB (Nat.le_refl _) hb2
  clear hb2 hO
  have hal := (Below.refl w2.heap.size w2).alloc (Nat.le_refl _) (.cells #[.int .i64 K, .slice ao n cap, .int .i64 a, .int .i64 b] 26)
  replace v1 := v1.next hal
  have v2 := c4_new w2 (.int .i64 K) (.slice ao n cap) (.int .i64 a) (.int .i64 b) 26
  replace hB := below_next hB (Nat.le_refl _) hal
  cases hr : cmdOf nm.data.toList ns with
  | none =>
    have HE : Hid (R = none) := by
      show _ = _
      rw [HR2.out, hr]
      rfl
    have r0 := v1.cell (j := 0) (by omega)
    have r1 := v1.cell (j := 1) (by omega)
    have r2 := v1.cell (j := 2) (by omega)
    have r3 := v1.cell (j := 3) (by omega)
    have fz := fun j => v1.frozen j
    clear HR2 hr hd hal v2
    simp only [Option.isSome_none]
    go_wp2
    obtain ⟨q0, q1, q2, q3⟩ := st4 v1 (.int .i64 0) (.slice none 0 0) (.int .i64 0) (.int .i64 0)
    exact bodyPost_ret (v := .tuple #[.agg #[.int .i64 0, .slice none 0 0, .int .i64 0, .int .i64 0], .bool false]) (by simp [results, Tryd.results10, go_sem, q0, q1, q2, q3]) rfl (by rw [HE.out]; exact ⟨none, 0, rfl, owns_none _ _ _ _, st4_below hB (Nat.le_refl _) _ _ _ _⟩)
  | some r =>
    obtain ⟨K', ns'⟩ := r
    rw [hr] at hd
    obtain ⟨e1, e2, e3, e4, hOS⟩ := hd rfl
    have hOS1 := hOS.nxt hal
    have HCO : Hid (∀ W, Row W ao n (at3 (lOf (some (K', ns'))) 0) (at3 (lOf (some (K', ns'))) 1) (at3 (lOf (some (K', ns'))) 2) → Calls Tryd.prog 30 #[.agg #[.int .i64 K, .slice ao n cap, .int .i64 a, .int .i64 b]] W fun e w' => e = .returned (.bool (okC K' ns')) ∧ Below W.heap.size W w') := fun W h => by
      have := implCommandOk_any K ao n cap _ _ _ a b (by omega) W h
      rw [e1, e2, e3, e4, okC_cmd hr] at this
      rw [e1, e2, e3, e4]
      exact this
    have HR3 : Hid (R = if okC K' ns' = true then some (K', ns') else none) := by
      show _ = _
      rw [HR2.out, hr]
      rfl
    have HF : Hid (K = kOf (some (K', ns')) ∧ n = (lOf (some (K', ns'))).length / 3 ∧ a = aOf (some (K', ns')) 0 ∧ b = aOf (some (K', ns')) 1) := ⟨e1, e2, e3, e4⟩
    simp only [Option.isSome_some]
    clear HR2 hr hd e1 e2 e3 e4 hOS hal
    have hrow : Row (w2.alloc (.cells #[.int .i64 K, .slice ao n cap, .int .i64 a, .int .i64 b] 26)) ao n (at3 (lOf (some (K', ns'))) 0) (at3 (lOf (some (K', ns'))) 1) (at3 (lOf (some (K', ns'))) 2) := OwnS.row hOS1
    go_wp2_with fail
    generalize (w2.alloc (.cells #[.int .i64 K, .slice ao n cap, .int .i64 a, .int .i64 b] 26)) = X at v1 v2 hB hOS1 hrow ⊢
    refine (HCO.out _ hrow).mono ?_
    rintro e w3 ⟨rfl, hb3⟩
    replace v1 := v1.next hb3
    replace v2 := v2.next hb3
    replace hB := below_next hB (Nat.le_refl _) hb3
    replace hOS1 := hOS1.nxt hb3
    have s0 : w3.cell? ⟨w2.heap.size, 0, none⟩ = some (.int .i64 K) := v2.cell (j := 0) (by omega)
    have s1 : w3.cell? ⟨w2.heap.size, 1, none⟩ = some (.slice ao n cap) := v2.cell (j := 1) (by omega)
    have s2 : w3.cell? ⟨w2.heap.size, 2, none⟩ = some (.int .i64 a) := v2.cell (j := 2) (by omega)
    have s3 : w3.cell? ⟨w2.heap.size, 3, none⟩ = some (.int .i64 b) := v2.cell (j := 3) (by omega)
    have r0 := v1.cell (j := 0) (by omega)
    have r1 := v1.cell (j := 1) (by omega)
    have r2 := v1.cell (j := 2) (by omega)
    have r3 := v1.cell (j := 3) (by omega)
    have fz := fun j => v1.frozen j
    clear hb3 v2 HCO hrow
    cases hok : okC K' ns'
    · have HE : Hid (R = none) := by
        show _ = _
        rw [HR3.out, hok]
        rfl
      clear HR3 HF
      go_wp2
      obtain ⟨q0, q1, q2, q3⟩ := st4 v1 (.int .i64 0) (.slice none 0 0) (.int .i64 0) (.int .i64 0)
      exact bodyPost_ret (v := .tuple #[.agg #[.int .i64 0, .slice none 0 0, .int .i64 0, .int .i64 0], .bool false]) (by simp [results, Tryd.results10, go_sem, q0, q1, q2, q3]) rfl (by rw [HE.out]; exact ⟨none, 0, rfl, owns_none _ _ _ _, st4_below hB (Nat.le_refl _) _ _ _ _⟩)
    · have HE : Hid (R = some (K', ns')) := by
        show _ = _
        rw [HR3.out, hok]
        rfl
      clear HR3
      go_wp2
      obtain ⟨q0, q1, q2, q3⟩ := st4 v1 (.int .i64 K) (.slice ao n cap) (.int .i64 a) (.int .i64 b)
      refine bodyPost_ret (v := .tuple #[.agg #[.int .i64 K, .slice ao n cap, .int .i64 a, .int .i64 b], .bool true]) (by simp [results, Tryd.results10, go_sem, q0, q1, q2, q3]) rfl ?_
      rw [HE.out]
      obtain ⟨e1, e2, e3, e4⟩ := HF.out
      refine ⟨ao, cap, by rw [← e1, ← e2, ← e3, ← e4]; rfl, ?_, st4_below hB (Nat.le_refl _) _ _ _ _⟩
      rw [← e2]
      exact (hOS1.from (by omega)).of_st4 (fun h0 p e => by obtain ⟨x, e5, hb, _⟩ := hOS1 0 h0; rw [e] at e5; cases e5; simp; omega) _ _ _ _

/-- The document's reading of every text. -/
theorem specRead_any (s : ByteArray) (hs : s.size ≤ 1048576) (w : World) :
    Calls Tryd.prog 13 #[.string s] w fun e w' => CAns w w' e (onlyOk (rdS s.data.toList)) := by
  have hl : s.toList = s.data.toList := ByteArray.toList_eq s
  have he : ∀ k, (s.extract 0 k).toList = s.data.toList.take k := fun k => by rw [ByteArray.toList_eq, extract_list]; simp
  have hsz : s.data.toList.length = s.size := by simp
  by_cases hN : s.data.toList = txNone
  · have e : rdS s.data.toList = some (1, []) := by unfold rdS; rw [if_pos hN]
    rw [e]
    exact specRead_none s hs (by rw [hl]; exact beqT hN) w
  have hNb : (s.toList == [110, 111, 110, 101]) = false := by rw [hl]; exact beqF hN
  by_cases hA : 4 < s.size ∧ s.data.toList.take 4 = txAsk ++ [32]
  · have e : rdS s.data.toList = askR (snums (s.data.toList.drop 4) [] []) := by
      unfold rdS
      rw [if_neg hN, if_pos (by rw [hsz]; exact hA)]
      rfl
    rw [e]
    exact specRead_ask s hs hNb hA.1 (by rw [he]; exact beqT hA.2) w
  by_cases hW : 6 < s.size ∧ s.data.toList.take 6 = txWeigh ++ [32]
  · have e : rdS s.data.toList = weighR (snums (s.data.toList.drop 6) [] []) := by
      unfold rdS
      rw [if_neg hN, if_neg (by rw [hsz]; exact hA), if_pos (by rw [hsz]; exact hW)]
      rfl
    rw [e]
    exact specRead_weigh s hs hNb hW.1 (by rw [he]; exact beqF (fun h => hA ⟨by omega, h⟩)) (by rw [he]; exact beqT hW.2) w
  · have e : rdS s.data.toList = none := by
      unfold rdS
      rw [if_neg hN, if_neg (by rw [hsz]; exact hA), if_neg (by rw [hsz]; exact hW)]
    rw [e]
    exact specRead_zero s hs hNb (fun h4 => by rw [he]; exact beqF (fun h => hA ⟨h4, h⟩)) (fun h6 => by rw [he]; exact beqF (fun h => hW ⟨h6, h⟩)) w
theorem implRead_same (s : ByteArray) (hs : s.size ≤ 1048576) (w : World) :
    Calls Tryd.prog 10 #[.string s] w fun e w' => CAns w w' e (onlyOk (rdS s.data.toList)) := by
  rw [← read_same]
  exact implRead_any s hs w

end Go.Proofs.YtcmeppjfjledfacDoor

/-
  A map's text, plainly: the program's number of a word is the document's.
-/
set_option linter.unusedVariables false
set_option linter.unusedSimpArgs false
namespace Go.Proofs.YtcmeppjfjledfacDoor
open Go.Lib (decDigits itoa parseIntB parseUintB parseUintM)

theorem dec_ten {u : Nat} (h : 10 ≤ u) : decDigits u = decDigits (u / 10) ++ [UInt8.ofNat (48 + u % 10)] := by
  rw [decDigits, dif_neg (by omega)]
theorem dec_one {u : Nat} (h : u < 10) : decDigits u = [UInt8.ofNat (48 + u)] := by
  rw [decDigits, dif_pos h]
theorem head_app {l t : List UInt8} (h : l ≠ []) : (l ++ t).head? = l.head? := by
  cases l with
  | nil => exact absurd rfl h
  | cons c r => rfl
theorem ofD {d : Nat} (h : d < 10) : (UInt8.ofNat (48 + d)).toNat = 48 + d := by simp; omega
theorem isD_of {d : Nat} (h : d < 10) : isD (UInt8.ofNat (48 + d)) = true := by unfold isD; rw [ofD h]; simp; omega
theorem dg_of {d : Nat} (h : d < 10) : dg (UInt8.ofNat (48 + d)) = d := by unfold dg; rw [ofD h]; omega
theorem dec_all (u : Nat) : (decDigits u).all isD = true ∧ decDigits u ≠ [] ∧ val (decDigits u) = u ∧ ((decDigits u).head? = some 48 ↔ u = 0) := by
  induction u using Nat.strongRecOn with
  | _ u ih =>
    by_cases h : u < 10
    · rw [dec_one h]
      refine ⟨by rw [List.all_cons, isD_of h]; rfl, by simp, ?_, ?_⟩
      · show (0 : Int) * 10 + dg (UInt8.ofNat (48 + u)) = u
        rw [dg_of h]; omega
      simp only [List.head?_cons, Option.some.injEq]
      constructor
      · intro e
        have e1 := congrArg UInt8.toNat e
        rw [ofD h] at e1
        have : (48 : UInt8).toNat = 48 := rfl
        omega
      · rintro rfl; rfl
    · have h10 : 10 ≤ u := by omega
      obtain ⟨i1, i2, i3, i4⟩ := ih (u / 10) (by omega)
      have hm : u % 10 < 10 := Nat.mod_lt _ (by omega)
      rw [dec_ten h10]
      refine ⟨all_snoc.2 ⟨i1, isD_of hm⟩, by simp, ?_, ?_⟩
      · rw [val_snoc, i3, dg_of hm]
        omega
      · rw [head_app i2, i4]
        omega
theorem dec_val : ∀ (k : Nat) (d : List UInt8), d.length = k → d.all isD = true → d ≠ [] → (d.head? = some 48 → d.length = 1) → decDigits (val d).toNat = d := by
  intro k
  induction k with
  | zero => intro d h _ hne _; exact absurd (List.length_eq_zero_iff.1 h) hne
  | succ k ih =>
    intro d hk hall hne h0
    obtain ⟨t, c, rfl⟩ : ∃ t c, d = t ++ [c] := ⟨d.dropLast, d.getLast hne, (List.dropLast_concat_getLast hne).symm⟩
    rw [all_snoc] at hall
    have hb := dg_bd hall.2
    have hc : UInt8.ofNat (48 + (dg c).toNat) = c := by
      have h1 : (dg c).toNat = c.toNat - 48 := by unfold dg; omega
      have h2 := hall.2
      unfold isD at h2
      simp at h2
      rw [h1, show 48 + (c.toNat - 48) = c.toNat by omega]
      exact UInt8.ofNat_toNat
    have hv := val_snoc t c
    by_cases ht : t = []
    · subst ht
      have e : val ([] ++ [c]) = dg c := by simp [val]
      rw [e, dec_one (by omega), hc]
      rfl
    · have hh : t.head? ≠ some 48 := by
        intro e
        have : (t ++ [c]).head? = some 48 := by rw [head_app ht]; exact e
        have := h0 this
        simp at this
        exact ht this
      have hn := val_nine hall.1 ht hh
      have hz := ih t (by simp at hk; omega) hall.1 ht (fun e => absurd e hh)
      have e1 : (val (t ++ [c])).toNat / 10 = (val t).toNat := by rw [hv]; omega
      have e2 : (val (t ++ [c])).toNat % 10 = (dg c).toNat := by rw [hv]; omega
      rw [dec_ten (by rw [hv]; omega), e1, e2, hz, hc]
theorem isD45 {d : List UInt8} (h : d.all isD = true) : d.head? ≠ some 45 := by
  cases d with
  | nil => simp
  | cons c t =>
    simp only [List.head?_cons, ne_eq, Option.some.injEq]
    rintro rfl
    simp [isD] at h
theorem dgt_len {u : Nat} (h : u ≤ 999999999) : (decDigits u).length ≤ 9 := by
  obtain ⟨i1, i2, i3, i4⟩ := dec_all u
  by_cases h0 : u = 0
  · subst h0; rw [dec_one (by omega)]; simp
  · exact ((val_nine i1 i2 (fun e => h0 (i4.1 e))).1).1 (by rw [i3]; omega)
theorem num1_itoa {v : Int} (h0 : -999999999 ≤ v) (h1 : v ≤ 999999999) : num1 (itoa v) = some v := by
  by_cases hv : v < 0
  · obtain ⟨u, rfl⟩ : ∃ u : Nat, v = -(u : Int) := ⟨v.natAbs, by omega⟩
    obtain ⟨i1, i2, i3, i4⟩ := dec_all u
    rw [Lib.itoa_neg u (by omega)]
    have hl := dgt_len (u := u) (by omega)
    have hp : 0 < (decDigits u).length := List.length_pos_iff.2 i2
    unfold num1
    rw [if_pos (by simp)]
    simp only [List.tail_cons]
    unfold numD
    rw [if_neg (by omega), if_neg (by rw [i1]; simp), if_neg (by intro e; have := i4.1 e.1; omega), i3]
    rfl
  · obtain ⟨u, rfl⟩ : ∃ u : Nat, v = (u : Int) := ⟨v.toNat, by omega⟩
    obtain ⟨i1, i2, i3, i4⟩ := dec_all u
    rw [Lib.itoa_nonneg]
    have hl := dgt_len (u := u) (by omega)
    have hp : 0 < (decDigits u).length := List.length_pos_iff.2 i2
    unfold num1
    rw [if_neg (isD45 i1)]
    unfold numD
    rw [if_neg (by omega), if_neg (by rw [i1]; simp), if_neg (by
      intro e
      have hu := i4.1 e.1
      subst hu
      rw [dec_one (by omega)] at e
      simp at e), i3]
    rfl
theorem itoa_num1 {l : List UInt8} {v : Int} (h : num1 l = some v) : itoa v = l ∧ -999999999 ≤ v ∧ v ≤ 999999999 := by
  have key : ∀ (neg : Bool) (d : List UInt8) (v : Int), numD neg d = some v → d.all isD = true ∧ d ≠ [] ∧ (d.head? = some 48 → d.length = 1 ∧ neg = false) ∧ v = (if neg = true then - val d else val d) ∧ d.length ≤ 9 := by
    intro neg d v h
    unfold numD at h
    split at h
    · cases h
    · next hl =>
      split at h
      · cases h
      · next ha =>
        split at h
        · cases h
        · next hz =>
          injection h with h
          have hne : d ≠ [] := by rintro rfl; exact hl (.inl rfl)
          refine ⟨by simpa using ha, hne, fun e => ?_, h.symm, by omega⟩
          have hp := List.length_pos_iff.2 hne
          constructor
          · by_cases c : 1 < d.length
            · exact absurd ⟨e, .inr c⟩ hz
            · omega
          · cases neg with
            | false => rfl
            | true => exact absurd ⟨e, .inl rfl⟩ hz
  have top : ∀ d : List UInt8, d.all isD = true → d ≠ [] → (d.head? = some 48 → d.length = 1) → d.length ≤ 9 → 0 ≤ val d ∧ val d ≤ 999999999 := by
    intro d h1 h2 h3 h4
    refine ⟨val_nonneg h1, ?_⟩
    by_cases h0 : d.head? = some 48
    · have := h3 h0
      obtain ⟨c, rfl⟩ := List.length_eq_one_iff.1 this
      simp at h1
      have := dg_bd h1
      simp [val]
      omega
    · exact ((val_nine h1 h2 h0).1).2 h4
  unfold num1 at h
  split at h
  · next h45 =>
    obtain ⟨k1, k2, k3, k4, k5⟩ := key _ _ _ h
    obtain ⟨t1, t2⟩ := top _ k1 k2 (fun e => (k3 e).1) k5
    have hd := dec_val _ _ rfl k1 k2 (fun e => (k3 e).1)
    have hpos : 1 ≤ val l.tail := by
      by_cases h0 : l.tail.head? = some 48
      · have := (k3 h0).2; cases this
      · exact (val_nine k1 k2 h0).2
    simp only [if_pos] at k4
    obtain ⟨u, hu⟩ : ∃ u : Nat, val l.tail = (u : Int) := ⟨(val l.tail).toNat, by omega⟩
    rw [hu] at k4 hpos t1 t2 hd
    subst k4
    refine ⟨?_, by omega, by omega⟩
    rw [Lib.itoa_neg u (by omega)]
    simp only [Int.toNat_natCast] at hd
    rw [hd]
    cases l with
    | nil => simp at h45
    | cons c t => simp at h45; subst h45; rfl
  · next h45 =>
    obtain ⟨k1, k2, k3, k4, k5⟩ := key _ _ _ h
    obtain ⟨t1, t2⟩ := top _ k1 k2 (fun e => (k3 e).1) k5
    have hd := dec_val _ _ rfl k1 k2 (fun e => (k3 e).1)
    simp only [Bool.false_eq_true, if_false] at k4
    obtain ⟨u, hu⟩ : ∃ u : Nat, val l = (u : Int) := ⟨(val l).toNat, by omega⟩
    rw [hu] at k4 t1 t2 hd
    subst k4
    refine ⟨?_, by omega, by omega⟩
    rw [Lib.itoa_nonneg]
    simpa using hd
theorem parseU : ∀ (d : List UInt8) (acc : Nat) (M : Nat), d.all isD = true → d.foldl (fun n c => n * 10 + dg c) (acc : Int) ≤ 999999999 → 999999999 ≤ M → parseUintM M acc d = .ok (d.foldl (fun n c => n * 10 + dg c) (acc : Int)).toNat
  | [], acc, M, _, _, _ => by simp [parseUintM]
  | c :: t, acc, M, ha, hv, hM => by
    simp only [List.all_cons, Bool.and_eq_true] at ha
    have hb := dg_bd ha.1
    have h2 := ha.1
    unfold isD at h2
    simp at h2
    have e : (acc : Int) * 10 + dg c = ((acc * 10 + (c.toNat - 48) : Nat) : Int) := by unfold dg; omega
    simp only [List.foldl_cons] at hv ⊢
    have hge := fold_bd t ((acc : Int) * 10 + dg c) ha.2 (by omega)
    rw [e] at hv hge ⊢
    rw [parseUintM, if_pos ⟨h2.1, h2.2⟩, if_neg (by omega), if_neg (by omega)]
    exact parseU t _ M ha.2 hv hM
theorem parse_itoa {v : Int} (h0 : -999999999 ≤ v) (h1 : v ≤ 999999999) : parseIntB 64 (itoa v) = .ok v := by
  have hU : ∀ u : Nat, u ≤ 999999999 → parseUintB 64 (decDigits u) = .ok u := by
    intro u hu
    obtain ⟨i1, i2, i3, i4⟩ := dec_all u
    unfold parseUintB
    rw [if_neg i2]
    have hv : (decDigits u).foldl (fun n c => n * 10 + dg c) ((0 : Nat) : Int) = u := i3
    rw [parseU _ 0 _ i1 (by rw [hv]; omega) (by decide), hv]
    simp
  by_cases hv : v < 0
  · obtain ⟨u, rfl⟩ : ∃ u : Nat, v = -(u : Int) := ⟨v.natAbs, by omega⟩
    rw [Lib.itoa_neg u (by omega)]
    unfold parseIntB
    simp only [show (45 : UInt8).toNat = 45 from rfl, or_true, if_true, hU u (by omega)]
    simp
    omega
  · obtain ⟨u, rfl⟩ : ∃ u : Nat, v = (u : Int) := ⟨v.toNat, by omega⟩
    rw [Lib.itoa_nonneg]
    obtain ⟨i1, i2, i3, i4⟩ := dec_all u
    have hu := hU u (by omega)
    cases hd : decDigits u with
    | nil => exact absurd hd i2
    | cons c t =>
      rw [hd] at i1 hu
      simp only [List.all_cons, Bool.and_eq_true] at i1
      have h2 := i1.1
      unfold isD at h2
      simp at h2
      unfold parseIntB
      simp only [show ¬ (c.toNat = 43 ∨ c.toNat = 45) by omega, if_false, hu]
      simp [show ¬ c.toNat = 45 by omega]
      omega
/-- The program's number of a word: what ParseInt takes, small enough, and written as it would be shown. -/
def rdNum (l : List UInt8) : Option Int := match parseIntB 64 l with | .ok v => if v < -999999999 ∨ 999999999 < v ∨ itoa v ≠ l then none else some v | _ => none
theorem rdNum_is (l : List UInt8) : rdNum l = num1 l := by
  cases h : num1 l with
  | some v =>
    obtain ⟨e, b0, b1⟩ := itoa_num1 h
    have hp := parse_itoa b0 b1
    rw [e] at hp
    unfold rdNum
    rw [hp]
    simp only
    rw [if_neg]
    rintro (c | c | c)
    · omega
    · omega
    · exact c e
  | none =>
    unfold rdNum
    split
    · next v hv =>
      by_cases c : v < -999999999 ∨ 999999999 < v ∨ itoa v ≠ l
      · rw [if_pos c]
      · exfalso
        have h1 : itoa v = l := by
          by_cases e : itoa v = l
          · exact e
          · exact absurd (.inr (.inr e)) c
        have := num1_itoa (v := v) (by omega) (by omega)
        rw [h1, h] at this
        cases this
    · rfl

/-- A sign ahead of the first word. -/
def onHead (c : UInt8) : List (List UInt8) → List (List UInt8)
  | [] => []
  | h :: r => (c :: h) :: r
def onFirst (cur : List UInt8) : List (List UInt8) → List (List UInt8)
  | [] => []
  | h :: r => (cur ++ h) :: r
/-- A text's words, between its blanks. -/
def gws : List UInt8 → List (List UInt8)
  | [] => [[]]
  | c :: t => if c = 32 then [] :: gws t else onHead c (gws t)
theorem gws_ne : ∀ l, gws l ≠ []
  | [] => by simp [gws]
  | c :: t => by
    unfold gws
    split
    · simp
    · have := gws_ne t
      cases h : gws t with
      | nil => exact absurd h this
      | cons a r => simp [onHead]
theorem onFirst_onHead (cur : List UInt8) (c : UInt8) (L : List (List UInt8)) : onFirst cur (onHead c L) = onFirst (cur ++ [c]) L := by cases L <;> simp [onHead, onFirst]
theorem onFirst_nil (L : List (List UInt8)) : onFirst [] L = L := by cases L <;> simp [onFirst]
theorem snums_words : ∀ (l : List UInt8) (out : List Int) (cur : List UInt8), snums l out cur = ((onFirst cur (gws l)).mapM num1).map (out ++ ·)
  | [], out, cur => by
    simp only [snums, gws, onFirst, List.append_nil, List.mapM_cons, List.mapM_nil]
    cases h : num1 cur <;> simp
  | c :: t, out, cur => by
    unfold snums gws
    split
    · simp only [onFirst, List.append_nil, List.mapM_cons]
      cases num1 cur with
      | none => simp
      | some n =>
        simp only
        rw [snums_words t (out ++ [n]) [], onFirst_nil]
        cases (gws t).mapM num1 <;> simp
    · rw [snums_words t out (cur ++ [c]), onFirst_onHead]
theorem onHead_len (c : UInt8) (L : List (List UInt8)) : (onHead c L).length = L.length := by cases L <;> simp [onHead]
theorem split_blank (k : Nat) (t : List UInt8) : Lib.splitK [32] 0 (k + 1) (32 :: t) = [] :: Lib.splitK [32] 0 k t := by
  have h : Lib.index (32 :: t) [32] = 0 := by rw [Lib.index]; simp [List.isPrefixOf]
  rw [Lib.splitK, h]
  simp
theorem split_other (k : Nat) {c : UInt8} (hc : c ≠ 32) (t : List UInt8) : Lib.splitK [32] 0 k (c :: t) = onHead c (Lib.splitK [32] 0 k t) := by
  cases k with
  | zero => rfl
  | succ k =>
    have hp : ([32] : List UInt8).isPrefixOf (c :: t) = false := by simp [List.isPrefixOf, Ne.symm hc]
    have hix : Lib.index (c :: t) [32] = if Lib.index t [32] == -1 then -1 else Lib.index t [32] + 1 := by rw [Lib.index, hp]; simp
    have hge := Lib.index_ge t [32]
    by_cases hm : Lib.index t [32] = -1
    · rw [Lib.splitK, Lib.splitK, hix, hm]
      simp [onHead]
    · obtain ⟨j, hj⟩ : ∃ j : Nat, Lib.index t [32] = j := ⟨(Lib.index t [32]).toNat, by omega⟩
      rw [hj] at hix
      have h1 : (((j : Nat) : Int) == -1) = false := beq_eq_false_iff_ne.2 (by omega)
      rw [h1] at hix
      have h2 : (((j : Int) + 1) == -1) = false := beq_eq_false_iff_ne.2 (by omega)
      have h3 : ((j : Int) + 1).toNat = j + 1 := by omega
      rw [Lib.splitK, Lib.splitK, hix, hj]
      simp [h1, h2, h3, onHead]
theorem split_words : ∀ (l : List UInt8) (k : Nat), ((gws l).length ≤ k + 1 → Lib.splitK [32] 0 k l = gws l) ∧ (k + 1 < (gws l).length → (Lib.splitK [32] 0 k l).length = k + 1)
  | [], k => by
    have : Lib.splitK [32] 0 k [] = [[]] := by cases k <;> simp [Lib.splitK, Lib.index]
    simp [gws, this]
  | c :: t, k => by
    by_cases hc : c = 32
    · subst hc
      have hw : gws (32 :: t) = [] :: gws t := by rw [gws, if_pos rfl]
      have hl := List.length_pos_iff.2 (gws_ne t)
      rw [hw]
      cases k with
      | zero =>
        refine ⟨fun h => ?_, fun _ => by simp [Lib.splitK]⟩
        simp only [List.length_cons] at h
        omega
      | succ k =>
        obtain ⟨i1, i2⟩ := split_words t k
        rw [split_blank]
        refine ⟨fun h => ?_, fun h => ?_⟩
        · rw [i1 (by simpa using h)]
        · simp [i2 (by simpa using h)]
    · have hw : gws (c :: t) = onHead c (gws t) := by rw [gws, if_neg hc]
      obtain ⟨i1, i2⟩ := split_words t k
      rw [hw, split_other k hc, onHead_len, onHead_len]
      exact ⟨fun h => by rw [i1 h], fun h => i2 h⟩
theorem gws_len : ∀ l : List UInt8, (gws l).length ≤ l.length + 1
  | [] => by simp [gws]
  | c :: t => by
    have := gws_len t
    unfold gws
    split
    · simpa using this
    · rw [onHead_len]; simp; omega
theorem mapM_len {f : List UInt8 → Option Int} : ∀ {L : List (List UInt8)} {ns : List Int}, L.mapM f = some ns → ns.length = L.length
  | [], ns, h => by simp at h; subst h; rfl
  | a :: r, ns, h => by
    simp only [List.mapM_cons] at h
    cases ha : f a with
    | none => rw [ha] at h; cases h
    | some n =>
      cases hr : r.mapM f with
      | none => rw [ha, hr] at h; cases h
      | some m =>
        rw [ha, hr] at h
        simp at h
        subst h
        simp [mapM_len hr]
/-- What the program reads: 301 words at most, one and threes. -/
def iRead (l : List UInt8) : Option (List Int) :=
  let W := Lib.splitK [32] 0 (min 302 (l.length + 1) - 1) l
  if 301 < W.length ∨ W.length % 3 ≠ 1 then none else W.mapM rdNum
/-- What the document reads. -/
def sRead (l : List UInt8) : Option (List Int) := match snums l [] [] with | some ns => if ns.length % 3 ≠ 1 then none else some ns | none => none
/-- Both read the same, but for more than 301 numbers. -/
theorem gread_same (l : List UInt8) : iRead l = (match sRead l with | some ns => if 301 < ns.length then none else some ns | none => none) := by
  have hf : rdNum = num1 := funext rdNum_is
  have hs : snums l [] [] = (gws l).mapM num1 := by rw [snums_words, onFirst_nil]; cases (gws l).mapM num1 <;> simp
  have hl := gws_len l
  have hp := List.length_pos_iff.2 (gws_ne l)
  obtain ⟨i1, i2⟩ := split_words l (min 302 (l.length + 1) - 1)
  unfold iRead sRead
  rw [hs, hf]
  simp only
  by_cases h : (gws l).length ≤ min 302 (l.length + 1) - 1 + 1
  · rw [i1 h]
    cases hm : (gws l).mapM num1 with
    | none => simp
    | some ns =>
      have hn := mapM_len hm
      rw [← hn]
      simp only
      by_cases h3 : ns.length % 3 = 1
      · by_cases h4 : 301 < ns.length
        · rw [if_pos (.inl h4), if_neg (by omega)]; simp [h4]
        · rw [if_neg (by omega), if_neg (by omega)]; simp [h4]
      · rw [if_pos (.inr h3), if_pos h3]
  · have hw := i2 (by omega)
    have h302 : min 302 (l.length + 1) - 1 + 1 = 302 := by omega
    rw [hw, h302, if_pos (.inl (by omega))]
    cases hm : (gws l).mapM num1 with
    | none => rfl
    | some ns =>
      have hn := mapM_len hm
      simp only
      by_cases h3 : ns.length % 3 = 1
      · rw [if_neg (by omega)]; simp; omega
      · rw [if_pos h3]

end Go.Proofs.YtcmeppjfjledfacDoor

/-
  Words and the text that they make, plainly: each is the other's.
-/
set_option linter.unusedVariables false
set_option linter.unusedSimpArgs false
namespace Go.Proofs.YtcmeppjfjledfacDoor
open Go.Lib (itoa)

/-- Words, with one blank between. -/
def joinW : List (List UInt8) → List UInt8
  | [] => []
  | [a] => a
  | a :: b :: r => a ++ 32 :: joinW (b :: r)
theorem join_cons {a : List UInt8} {r : List (List UInt8)} (h : r ≠ []) : joinW (a :: r) = a ++ 32 :: joinW r := by
  cases r with
  | nil => exact absurd rfl h
  | cons b t => rfl
theorem join_head (c : UInt8) {L : List (List UInt8)} (h : L ≠ []) : joinW (onHead c L) = c :: joinW L := by
  cases L with
  | nil => exact absurd rfl h
  | cons a r =>
    cases r with
    | nil => rfl
    | cons b t => rfl
/-- A text is what its words make. -/
theorem join_gws : ∀ l : List UInt8, joinW (gws l) = l
  | [] => rfl
  | c :: t => by
    unfold gws
    split
    · next h => rw [join_cons (gws_ne t), join_gws t, h]; rfl
    · rw [join_head c (gws_ne t), join_gws t]
/-- A word that holds no blank goes ahead of the first word. -/
theorem gws_app : ∀ (a l : List UInt8), (∀ c ∈ a, c ≠ 32) → gws (a ++ l) = onFirst a (gws l)
  | [], l, _ => (onFirst_nil _).symm
  | c :: t, l, h => by
    have hc : c ≠ 32 := h c (by simp)
    show gws (c :: (t ++ l)) = _
    rw [gws, if_neg hc, gws_app t l (fun x hx => h x (by simp [hx]))]
    cases hl : gws l with
    | nil => exact absurd hl (gws_ne l)
    | cons a r => rfl
/-- The words of what words make are those words. -/
theorem gws_join : ∀ (L : List (List UInt8)), L ≠ [] → (∀ a ∈ L, ∀ c ∈ a, c ≠ 32) → gws (joinW L) = L
  | [], h, _ => absurd rfl h
  | [a], _, h => by
    have := gws_app a [] (h a (by simp))
    simp [gws, onFirst] at this
    exact this
  | a :: b :: r, _, h => by
    rw [join_cons (by simp), gws_app a _ (h a (by simp))]
    have ih := gws_join (b :: r) (by simp) (fun x hx => h x (by simp [hx]))
    rw [gws, if_pos rfl, ih]
    simp [onFirst]
/-- No blank in a number's text. -/
theorem itoa_blank (v : Int) : ∀ c ∈ itoa v, c ≠ 32 := by
  intro c hc
  have hd : ∀ (u : Nat), ∀ c ∈ Lib.decDigits u, c ≠ 32 := fun u c hc => (isD_ne (List.all_eq_true.1 (dec_all u).1 c hc)).1
  by_cases hv : v < 0
  · obtain ⟨u, rfl⟩ : ∃ u : Nat, v = -(u : Int) := ⟨v.natAbs, by omega⟩
    rw [Lib.itoa_neg u (by omega)] at hc
    rcases List.mem_cons.1 hc with rfl | hc
    · decide
    · exact hd u c hc
  · obtain ⟨u, rfl⟩ : ∃ u : Nat, v = (u : Int) := ⟨v.toNat, by omega⟩
    rw [Lib.itoa_nonneg] at hc
    exact hd u c hc
theorem mapM_itoa : ∀ (ns : List Int), (∀ v ∈ ns, -999999999 ≤ v ∧ v ≤ 999999999) → (ns.map itoa).mapM num1 = some ns
  | [], _ => rfl
  | v :: r, h => by
    simp only [List.map_cons, List.mapM_cons, num1_itoa (h v (by simp)).1 (h v (by simp)).2, mapM_itoa r (fun x hx => h x (by simp [hx]))]
    rfl
theorem itoa_mapM : ∀ (L : List (List UInt8)) (ns : List Int), L.mapM num1 = some ns → ns.map itoa = L
  | [], ns, h => by simp at h; subst h; rfl
  | a :: r, ns, h => by
    simp only [List.mapM_cons] at h
    cases ha : num1 a with
    | none => rw [ha] at h; cases h
    | some n =>
      cases hr : r.mapM num1 with
      | none => rw [ha, hr] at h; cases h
      | some m =>
        rw [ha, hr] at h
        simp at h
        subst h
        rw [List.map_cons, itoa_mapM r m hr, (itoa_num1 ha).1]
/-- Numbers that are shown are read as themselves. -/
theorem snums_show {ns : List Int} (h0 : ns ≠ []) (h : ∀ v ∈ ns, -999999999 ≤ v ∧ v ≤ 999999999) : snums (joinW (ns.map itoa)) [] [] = some ns := by
  rw [snums_words, onFirst_nil, gws_join _ (by simpa using h0) (fun a ha => by obtain ⟨v, _, rfl⟩ := List.mem_map.1 ha; exact itoa_blank v), mapM_itoa ns h]
  rfl
/-- A text whose numbers are read is what those numbers are shown as. -/
theorem show_snums {l : List UInt8} {ns : List Int} (h : snums l [] [] = some ns) : joinW (ns.map itoa) = l := by
  rw [snums_words, onFirst_nil] at h
  cases hm : (gws l).mapM num1 with
  | none => rw [hm] at h; cases h
  | some m =>
    rw [hm] at h
    simp at h
    subst h
    rw [itoa_mapM _ _ hm, join_gws]

end Go.Proofs.YtcmeppjfjledfacDoor

/-
  Numbers as text: the document's digits and the library's are one, for every number that is not below nought.
-/
set_option linter.unusedVariables false
set_option linter.unusedSimpArgs false
namespace Go.Proofs.YtcmeppjfjledfacDoor
open Go.RowKit

def tabName : String := "internal/strconv.uint64pow10"
def Tab (w : World) : Prop := Lib.TabIs Tryd.prog w tabName .u64 Lib.pow10Tab

theorem Tab.below {w w' : World} {B : Nat} (h : Tab w) (hb : Below B w w') (hB : w.heap.size ≤ B) : Tab w' := by
  unfold Tab Lib.TabIs World.var? at h ⊢
  cases hg : Tryd.prog.globalNamed tabName with
  | none => rw [hg] at h; cases h
  | some g =>
    rw [hg] at h
    simp only [Option.bind_some] at h ⊢
    by_cases hlt : g < w.heap.size
    · rw [hb.block g (by omega)]; exact h
    · rw [Array.getElem?_eq_none (Nat.le_of_not_lt hlt)] at h; cases h

/-- A text out of its bytes. -/
abbrev txt (l : List UInt8) : Value := .string ⟨l.toArray⟩

/-- strconv.FormatInt, over the library's own. -/
theorem fmtInt_any (n : Int) (h0 : -9223372036854775808 ≤ n) (h1 : n ≤ 9223372036854775807) (w : World) (ht : Tab w) :
    Calls Tryd.prog 60 #[.int .i64 n, .int .i64 10] w fun e w' => e = .returned (txt (Lib.itoa n)) ∧ Below w.heap.size w w' := by
  go_enter Tryd.func60, Tryd.ntmps60
  go_wp2_with fail
  refine (Tryd.internal_strconv_FormatInt_10 n h0 h1 _ ht).mono ?_
  rintro e w' ⟨rfl, k, os, rfl⟩
  go_wp2
  go_ret
  exact ⟨rfl, Lib.below_grow _ _ (Nat.le_refl _) _ _⟩
theorem showNumber_any (n : Int) (h0 : 0 ≤ n) (h1 : n ≤ 9223372036854775807) (w : World) (ht : Tab w) :
    Calls Tryd.prog 31 #[.int .i64 n] w fun e w' => e = .returned (txt (Lib.decDigits n.toNat)) ∧ Below w.heap.size w w' := by
  have e : Lib.itoa n = Lib.decDigits n.toNat := by unfold Lib.itoa; rw [if_neg (by omega)]
  go_enter Tryd.func31, Tryd.ntmps31
  go_wp2_with (go_at_call 60; refine (fmtInt_any n (by omega) h1 _ ht).mono ?_; rintro e w' ⟨rfl, hbf⟩)
  go_ret
  refine ⟨?_, hbf⟩
  first | rfl | (rw [e]; rfl)

/-- What is still to come, and what is there already, are the digits. -/
def Inv (N u : Nat) (l : List UInt8) : Prop := Lib.decDigits N = (if u = 0 ∧ l ≠ [] then l else Lib.decDigits u ++ l)
theorem decDigits_ten {u : Nat} (h : 10 ≤ u) : Lib.decDigits u = Lib.decDigits (u / 10) ++ [UInt8.ofNat (48 + u % 10)] := by
  rw [Lib.decDigits, dif_neg (by omega)]
theorem decDigits_one {u : Nat} (h : u < 10) : Lib.decDigits u = [UInt8.ofNat (48 + u)] := by
  rw [Lib.decDigits, dif_pos h]
theorem Inv.step {N u : Nat} {l : List UInt8} (h : Inv N u l) (hc : l = [] ∨ u ≠ 0) : Inv N (u / 10) (UInt8.ofNat (48 + u % 10) :: l) := by
  unfold Inv at h ⊢
  rw [if_neg (by rintro ⟨h1, h2⟩; rcases hc with hc | hc; exact h2 hc; exact hc h1)] at h
  rw [h]
  by_cases hu : u < 10
  · rw [if_pos ⟨by omega, by simp⟩, decDigits_one hu, Nat.mod_eq_of_lt hu]; rfl
  · rw [if_neg (by rintro ⟨h1, _⟩; omega), decDigits_ten (by omega)]; simp
theorem Inv.fin {N : Nat} {l : List UInt8} (h : Inv N 0 l) (hl : l ≠ []) : Lib.decDigits N = l := by
  unfold Inv at h; rw [if_pos ⟨rfl, hl⟩] at h; exact h
theorem decDigits_len : ∀ u : Nat, (Lib.decDigits u).length ≤ u + 1 := by
  intro u
  induction u using Nat.strongRecOn with
  | ind u ih =>
    by_cases hu : u < 10
    · rw [decDigits_one hu]; simp
    · rw [decDigits_ten (by omega)]
      have := ih (u / 10) (by omega)
      simp; omega
theorem Inv.len {N u : Nat} {l : List UInt8} (h : Inv N u l) : l.length ≤ N + 1 := by
  unfold Inv at h
  have := decDigits_len N
  rw [h] at this
  split at this
  · exact this
  · simp at this; omega
def txtLen : Value → Nat | .string s => s.size | _ => 0

theorem bytes_add (a b : List UInt8) : (⟨a.toArray⟩ : ByteArray) ++ ⟨b.toArray⟩ = ⟨(a ++ b).toArray⟩ := by
  apply ByteArray.ext
  simp
theorem txt_cons (u : Nat) (l : List UInt8) : Value.string ({ data := #[48 + UInt8.ofNat (u % 10)] } ++ { data := l.toArray }) = txt (UInt8.ofNat (48 + u % 10) :: l) := by
  have h : (48 + UInt8.ofNat (u % 10) : UInt8) = UInt8.ofNat (48 + u % 10) := by rw [UInt8.ofNat_add]; rfl
  rw [h]
  exact congrArg Value.string (bytes_add [UInt8.ofNat (48 + u % 10)] l)

theorem conv_one (x : Int) (w : World) :
    (convert 22 9 (.slice (some ⟨w.heap.size, 0, none⟩) 1 1)).run Tryd.prog (w.alloc (.cells #[.int .u8 x] 5)) = .ok (txt [UInt8.ofNat x.toNat]) (w.alloc (.cells #[.int .u8 x] 5)) := by
  rw [run_convert_bytes_string _ 22 9 5 _ 1 1 Tryd.underlying22 Tryd.underlying5 Tryd.underlying9]
  have hl := run_loadCells_list (P := Tryd.prog) (w.alloc (.cells #[.int .u8 x] 5)) ⟨w.heap.size, 0, none⟩ [.int .u8 x] (fun j u hj => by
    match j, hj with
    | 0, hj => simp at hj; subst hj; simp [Addr.add, go_sem])
  rw [run_bytesToString _ _ 1 1 [x] (by simpa using hl)]
  rfl

set_option maxHeartbeats 400000 in
set_option maxRecDepth 20000 in
theorem l1Int_any (N : Nat) (h1 : N ≤ 1000000000000) (w : World) :
    Calls Tryd.prog 64 #[.int .i64 N] w fun e w' => e = .returned (txt (Lib.decDigits N)) ∧ Below w.heap.size w w' := by
  have hcv := conv_one
  go_enter Tryd.func64, Tryd.ntmps64
  go_wp2
  go_loopw [0, 3] (fun x s wr => ∃ (u : Nat) (l : List UInt8), u ≤ N ∧ x = .int .i64 u ∧ s = txt l ∧ Inv N u l ∧ Below w.heap.size w wr) (fun x s _ => (intOf x).toNat + (1 - txtLen s))
  case atStart => exact ⟨N, [], Nat.le_refl _, rfl, rfl, by simp [Inv], Below.refl _ _⟩
  case round =>
    obtain ⟨u, l, hu, rfl, rfl, hinv, hbel⟩ := hrel
    have hl := hinv.len
    have HI : Hid (Inv N u l) := hinv
    clear hinv
    by_cases he : l = []
    · subst he
      go_wp2
      go_roundw
      case rel => exact ⟨u / 10, [UInt8.ofNat (48 + u % 10)], by omega, by go_num, txt_cons u [], HI.out.step (Or.inl rfl), hbel.alloc hbel.size _⟩
      case measure => rw [txt_cons u []]; simp [intOf, txtLen, ByteArray.size]; omega
    have hne : l.isEmpty = false := by simpa using he
    have hll : 0 < l.length := List.length_pos_iff.2 he
    by_cases hz : u = 0
    · subst hz
      go_wp2
      go_ret
      exact ⟨congrArg (fun x => Ending.returned (txt x)) (HI.out.fin he).symm, hbel⟩
    · have hz' : ((u : Int) != 0) = true := by simp; omega
      go_wp2
      go_roundw
      case rel => exact ⟨u / 10, UInt8.ofNat (48 + u % 10) :: l, by omega, by go_num, txt_cons u l, HI.out.step (Or.inr hz), hbel.alloc hbel.size _⟩
      case measure => rw [txt_cons u l]; simp [intOf, txtLen, ByteArray.size]; omega

end Go.Proofs.YtcmeppjfjledfacDoor

/-
  Bytes in memory of the call's own, appended to out of texts: one law for the walk, room or none.
-/
set_option linter.unusedVariables false
set_option linter.unusedSimpArgs false
namespace Go.Proofs.YtcmeppjfjledfacDoor
open Go.RowKit

/-- Block g has room for cap bytes, which may be written, and begins with the bytes l. -/
def BRow (w : World) (g cap : Nat) (l : List UInt8) : Prop :=
  l.length ≤ cap ∧ (∀ j, j < cap → (w.cell? ⟨g, j, none⟩).isSome = true ∧ w.frozen? ⟨g, j, none⟩ = false) ∧ ∀ j c, l[j]? = some c → w.cell? ⟨g, j, none⟩ = some (.int .u8 (c.toNat : Int))

theorem BRow.below {w w' : World} {g cap : Nat} {l : List UInt8} {B : Nat} (h : BRow w g cap l) (hb : Below B w w') (hB : w.heap.size ≤ B) : BRow w' g cap l := by
  by_cases hlt : g < w.heap.size
  · exact ⟨h.1, fun j hj => by rw [hb.cell (by simp; omega), hb.frozen (by simp; omega)]; exact h.2.1 j hj, fun j c hc => by rw [hb.cell (by simp; omega)]; exact h.2.2 j c hc⟩
  · have h0 : cap = 0 := by
      rcases Nat.eq_zero_or_pos cap with h0 | h0
      · exact h0
      · have := (h.2.1 0 h0).1
        simp [World.cell?, Array.getElem?_eq_none (Nat.le_of_not_lt hlt)] at this
    subst h0
    have hl : l = [] := List.eq_nil_of_length_eq_zero (by have := h.1; omega)
    subst hl
    exact ⟨Nat.le_refl _, fun j hj => by omega, fun j c hc => by simp at hc⟩

theorem BRow.lt {w : World} {g cap : Nat} {l : List UInt8} (h : BRow w g cap l) (hl : 0 < l.length) : g < w.heap.size := by
  by_cases hlt : g < w.heap.size
  · exact hlt
  · have := (h.2.1 0 (by have := h.1; omega)).1
    simp [World.cell?, Array.getElem?_eq_none (Nat.le_of_not_lt hlt)] at this

theorem Tryd.infoByte : (Tryd.prog.info? 5).map (fun i => (i.zero, i.size, i.bytes)) = some (some (.int .u8 0), 1, 1) := by kernel_rfl

def bcells (l : List UInt8) : List Value := l.map fun b => .int .u8 (b.toNat : Int)
theorem bcells_at (l : List UInt8) (j : Nat) : (bcells l)[j]? = l[j]?.map fun b => .int .u8 (b.toNat : Int) := by simp [bcells]

theorem setCells_below {w : World} {g o : Nat} (vs : List Value) {B : Nat} (hB : B ≤ g) : Below B w (w.setCells g o vs) := by
  induction vs generalizing w o with
  | nil => exact Below.refl _ _
  | cons v vs ih => exact ((Below.refl B w).setCell (p := ⟨g, o, none⟩) hB v).trans ih

theorem setCells_grown {w : World} {g o : Nat} (vs : List Value) : w.grownBy (w.setCells g o vs) (some g) := by
  induction vs generalizing w o with
  | nil => exact World.grownBy.refl _ _
  | cons v vs ih =>
    have h1 : w.grownBy (w.setCell ⟨g, o, none⟩ v) (some g) := ⟨rfl, rfl, rfl, by simp [World.setCell], fun k _ hne => Below.heap_setCell _ _ _ _ (fun e => hne (by rw [e]))⟩
    have h2 := ih (w := w.setCell ⟨g, o, none⟩ v) (o := o + 1)
    exact ⟨h2.os.trans h1.os, h2.tape.trans h1.tape, h2.output.trans h1.output, Nat.le_trans h1.size h2.size, fun k hk hne => (h2.block k (Nat.lt_of_lt_of_le hk h1.size) hne).trans (h1.block k hk hne)⟩

theorem run_append_txt (w : World) (ty : TypeId) (g cap : Nat) (l s : List UInt8) (h : BRow w g cap l) (hlen : l.length + s.length ≤ 1000000000000) {B : Nat} (hg : B ≤ g) (hB : B ≤ w.heap.size) :
    ∃ g' cap' w', (Builtin.append_ #[22, 9] ty #[.slice (some ⟨g, 0, none⟩) l.length cap, txt s]).run Tryd.prog w = .ok (.slice (some ⟨g', 0, none⟩) (l ++ s).length cap') w' ∧
      B ≤ g' ∧ BRow w' g' cap' (l ++ s) ∧ Below B w w' ∧ w.grownBy w' (some g) := by
  obtain ⟨i, hi, hz0, hz1, hz2⟩ := info_parts Tryd.infoByte
  have hsrc : Src Tryd.prog i.size 9 (txt s) s.length (bcells s) w := by
    rw [hz1]
    have := Src.ofString (P := Tryd.prog) w Tryd.underlying9 (⟨s.toArray⟩ : ByteArray)
    simpa [byteCells, bcells, ByteArray.size] using this
  by_cases hroom : l.length + s.length ≤ cap
  · refine ⟨g, cap, w.setCells g l.length (bcells s), ?_, hg, ?_, setCells_below _ hg, setCells_grown _⟩
    · have hr := run_append_room_src (P := Tryd.prog) w 22 9 ty 5 i Tryd.underlying22 hi g 0 l.length cap (txt s) s.length (bcells s) hsrc hroom
        (fun j hj => by simp [bcells] at hj; rw [hz1]; simpa using (h.2.1 (l.length + j) (by omega)).1) (fun j hj => by simp [bcells] at hj; rw [hz1]; simpa using (h.2.1 (l.length + j) (by omega)).2)
      rw [hz1] at hr
      simpa using hr
    · refine ⟨by simpa using hroom, fun j hj => ⟨World.isSome_setCells g _ _ _ _ (h.2.1 j hj).1, by rw [World.frozen?_setCells]; exact (h.2.1 j hj).2⟩, fun j c hc => ?_⟩
      by_cases hj : j < l.length
      · rw [World.cell?_setCells_out g _ _ _ _ (fun _ _ => Or.inl hj)]
        rw [List.getElem?_append_left hj] at hc
        exact h.2.2 j c hc
      · rw [List.getElem?_append_right (by omega)] at hc
        have hjs : j - l.length < s.length := (List.getElem?_eq_some_iff.1 hc).1
        have := World.cell?_setCells_in g (bcells s) l.length w (fun j hj => (h.2.1 (l.length + j) (by simp [bcells] at hj; omega)).1) (j - l.length) (by simpa [bcells] using hjs)
        rw [show l.length + (j - l.length) = j by omega] at this
        rw [this]
        have e := (List.getElem?_eq_some_iff.1 hc).2
        simp [bcells, e]
  · have holds : (Builtin.firstCells i.size l.length (.slice (some ⟨g, 0, none⟩) l.length cap)).run Tryd.prog w.drew = .ok (bcells l).toArray w.drew := by
      rw [hz1]
      exact run_firstCells_some w.drew 1 l.length ⟨g, 0, none⟩ l.length cap (bcells l) (by simp [bcells]) (fun j u hu => by
        rw [bcells_at] at hu
        simp at hu
        obtain ⟨c, hc, rfl⟩ := hu
        rw [Addr.add_mid]
        simpa using h.2.2 j c hc)
    have hr := run_append_grow_src (P := Tryd.prog) w 22 9 ty 5 i _ Tryd.underlying22 hi hz0 (some ⟨g, 0, none⟩) l.length cap (bcells l) holds (txt s) s.length (bcells s) hsrc (by omega) (by omega)
      (growslice_fits (by omega) (by rw [hz2]; omega))
    have hge := grownCap_ge w (l.length + s.length) cap 5
    have hl2 : (l ++ s).length = l.length + s.length := List.length_append
    rw [← hl2] at hr hge
    refine ⟨w.heap.size, _, _, hr, hB, ?_, (Below.drew (Below.refl _ _)).alloc hB _, ⟨rfl, rfl, rfl, by simp, fun k hk _ => Below.heap_alloc w.drew _ k hk⟩⟩
    have hsz : ((bcells l ++ bcells s).toArray ++ Builtin.zeroCells (Value.int .u8 0).cells (grownCap w (l ++ s).length cap 5 - (l ++ s).length)).size = grownCap w (l ++ s).length cap 5 := by
      rw [Array.size_append, size_zeroCells]
      simp [bcells, Value.cells] at hge ⊢
      omega
    refine ⟨hge, fun j hj => ⟨?_, World.frozen?_alloc_new w.drew _ _ j⟩, fun j c hc => ?_⟩
    · have e1 := World.cell?_alloc_new w.drew ((bcells l ++ bcells s).toArray ++ Builtin.zeroCells (Value.int .u8 0).cells (grownCap w (l ++ s).length cap 5 - (l ++ s).length)) 5 j
      have e2 : w.drew.heap.size = w.heap.size := rfl
      rw [e2] at e1
      rw [e1, Array.getElem?_eq_getElem (by rw [hsz]; exact hj)]
      rfl
    · have e1 := World.cell?_alloc_new w.drew ((bcells l ++ bcells s).toArray ++ Builtin.zeroCells (Value.int .u8 0).cells (grownCap w (l ++ s).length cap 5 - (l ++ s).length)) 5 j
      have e2 : w.drew.heap.size = w.heap.size := rfl
      rw [e2] at e1
      have hjl : j < (l ++ s).length := (List.getElem?_eq_some_iff.1 hc).1
      rw [e1, Array.getElem?_append_left (by simpa [bcells] using hjl), List.getElem?_toArray]
      have : bcells l ++ bcells s = bcells (l ++ s) := by simp [bcells]
      rw [this, bcells_at, hc]
      rfl

/-- At a step of a region that draws its order. -/
theorem step_append_txt {ops : Array Oper} {o : Oper} {a : Act} {w : World} {K : Act → World → Prop} {Q : Exit → Act → World → Prop} {E : Prop} (hgd : o.guard = none) (x y : Operand)
    (ho : o.op = .call { callee := .builtin .append, args := #[x, y], argTypes := #[22, 9] }) (g cap : Nat) (l s : List UInt8) (hx : a.eval x = .slice (some ⟨g, 0, none⟩) l.length cap) (hy : a.eval y = txt s)
    (h : BRow w g cap l) (hlen : l.length + s.length ≤ 1000000000000) (B : Nat) (hg : B ≤ g) (hB : B ≤ w.heap.size)
    (hK : ∀ g' cap' w', B ≤ g' → BRow w' g' cap' (l ++ s) → Below B w w' → w.grownBy w' (some g) → K (a.put o.dst (.slice (some ⟨g', 0, none⟩) (l ++ s).length cap')) w') :
    if Region.wanted o (yielded ops a.tmps) = true then Oper.wp Tryd.prog o a w K Q else E := by
  have hw : Region.wanted o (yielded ops a.tmps) = true := by simp [Region.wanted, hgd]
  rw [if_pos hw]
  obtain ⟨g', cap', w', hr, h2, h3, h4, h5⟩ := run_append_txt w o.type g cap l s h hlen hg hB
  unfold Oper.wp execOp
  simp only [ho, resolve, invoke, builtin, Sem.run_bind, Sem.run_pure, Result.andThen_ok, List.map_toArray, List.map_cons, List.map_nil, hx, hy, hr]
  exact hK g' cap' w' h2 h3 h4 h5

end Go.Proofs.YtcmeppjfjledfacDoor

/-
  Numbers and arcs as text; bytes made of a text and back.
-/
set_option linter.unusedVariables false
set_option linter.unusedSimpArgs false
namespace Go.Proofs.YtcmeppjfjledfacDoor
open Go.RowKit
attribute [local go_sem ↓] Go.wp_at_zero Go.wp_at_succ

def dec (n : Int) : List UInt8 := Lib.decDigits n.toNat
def arcT (f t g : Int) : List UInt8 := 32 :: (dec f ++ (32 :: (dec t ++ (32 :: dec g))))
def Small (n : Nat) (F T G : Nat → Int) : Prop := ∀ k, k < n → (0 ≤ F k ∧ F k ≤ 1000000) ∧ (0 ≤ T k ∧ T k ≤ 1000000) ∧ (0 ≤ G k ∧ G k ≤ 1000000)
theorem dec_len {n : Int} (h0 : 0 ≤ n) (h1 : n ≤ 1000000) : (dec n).length ≤ 1000001 := by
  have := decDigits_len n.toNat
  unfold dec; omega
theorem arcT_len {f t g : Int} (hf : 0 ≤ f ∧ f ≤ 1000000) (ht : 0 ≤ t ∧ t ≤ 1000000) (hg : 0 ≤ g ∧ g ≤ 1000000) : (arcT f t g).length ≤ 4000000 := by
  have a := dec_len hf.1 hf.2
  have b := dec_len ht.1 ht.2
  have c := dec_len hg.1 hg.2
  simp [arcT]; omega
theorem decDigits_pos (u : Nat) : 0 < (Lib.decDigits u).length := by
  by_cases hu : u < 10
  · rw [decDigits_one hu]; simp
  · rw [decDigits_ten (by omega)]; simp
theorem conv_bytes (s : ByteArray) (w : World) : (convert 9 22 (.string s)).run Tryd.prog w = .ok (.slice (some ⟨w.heap.size, 0, none⟩) s.size (grownCap w s.size 0 5))
      (w.drew.alloc (.cells (bytesRow s (grownCap w s.size 0 5)) 5 ((bytesRow s (grownCap w s.size 0 5)).size, (bytesRow s (grownCap w s.size 0 5)).size + 1))) :=
  run_bytes_of_string w 9 22 5 s Tryd.underlying9 Tryd.underlying22 Tryd.underlying5
theorem brow_new (l : List UInt8) (w : World) (cap : Nat) (hcap : l.length ≤ cap) :
    BRow (w.alloc (.cells (bytesRow ⟨l.toArray⟩ cap) 5 ((bytesRow ⟨l.toArray⟩ cap).size, (bytesRow ⟨l.toArray⟩ cap).size + 1))).drew w.heap.size cap l := by
  have hb : (w.alloc (.cells (bytesRow ⟨l.toArray⟩ cap) 5 ((bytesRow ⟨l.toArray⟩ cap).size, (bytesRow ⟨l.toArray⟩ cap).size + 1))).drew.heap[w.heap.size]? = some (.cells (bytesRow ⟨l.toArray⟩ cap) 5 ((bytesRow ⟨l.toArray⟩ cap).size, (bytesRow ⟨l.toArray⟩ cap).size + 1)) := heap_alloc_new w _
  have hsz : (bytesRow ⟨l.toArray⟩ cap).size = cap := by simp [bytesRow, ByteArray.size]; omega
  refine ⟨hcap, fun j hj => ⟨?_, ?_⟩, fun j c hc => ?_⟩
  · simp only [World.cell?, hb]
    rw [Array.getElem?_eq_getElem (by rw [hsz]; exact hj)]
    rfl
  · simp only [World.frozen?, hb]
    simp; omega
  · have hjl : j < l.length := (List.getElem?_eq_some_iff.1 hc).1
    simp only [World.cell?, hb]
    rw [bytesRow, Array.getElem?_append_left (by simpa using hjl)]
    simp [hc]
theorem conv_txt {w : World} {g cap : Nat} {l : List UInt8} (h : BRow w g cap l) : (convert 22 9 (.slice (some ⟨g, 0, none⟩) l.length cap)).run Tryd.prog w = .ok (txt l) w := by
  rw [run_convert_bytes_string _ 22 9 5 _ _ _ Tryd.underlying22 Tryd.underlying5 Tryd.underlying9]
  have hl := run_loadCells_list (P := Tryd.prog) w ⟨g, 0, none⟩ (bcells l) (fun j u hu => by
    rw [bcells_at] at hu
    simp at hu
    obtain ⟨c, hc, rfl⟩ := hu
    rw [Addr.add_mid]
    simpa using h.2.2 j c hc)
  have e : bcells l = (l.map fun b => (b.toNat : Int)).map (Value.int .u8) := by simp [bcells]
  rw [e] at hl
  simp only [List.length_map] at hl
  rw [run_bytesToString _ _ l.length cap _ hl]
  have key : ∀ (xs : List UInt8) (r : ByteArray), (xs.map fun b => (b.toNat : Int)).foldl (fun r n => r.push (UInt8.ofNat n.toNat)) r = ⟨(r.data.toList ++ xs).toArray⟩ := by
    intro xs
    induction xs with
    | nil => intro r; apply ByteArray.ext; simp
    | cons x xs ih => intro r; simp only [List.map_cons, List.foldl_cons]; rw [ih]; apply ByteArray.ext; simp
  rw [key]
  rfl
/-- One arc's numbers, as the document's text adds them up. -/
theorem arc_add (a b c : List UInt8) : ((((({ data := #[32] } : ByteArray) ++ { data := a.toArray }) ++ { data := #[32] }) ++ { data := b.toArray }) ++ { data := #[32] }) ++ { data := c.toArray } = (⟨(32 :: (a ++ (32 :: (b ++ (32 :: c))))).toArray⟩ : ByteArray) := by
  apply ByteArray.ext
  simp
theorem l1Int_dec (n : Int) (h0 : 0 ≤ n) (h1 : n ≤ 1000000) (w : World) :
    Calls Tryd.prog 64 #[.int .i64 n] w fun e w' => e = .returned (txt (dec n)) ∧ Below w.heap.size w w' := by
  obtain ⟨N, rfl⟩ := Int.eq_ofNat_of_zero_le h0
  refine (l1Int_any N (by omega) w).mono ?_
  rintro e w' ⟨rfl, hb⟩
  exact ⟨rfl, hb⟩

end Go.Proofs.YtcmeppjfjledfacDoor

/-
  Numbers one behind the other and their text, plainly.
-/
set_option linter.unusedVariables false
set_option linter.unusedSimpArgs false
namespace Go.Proofs.YtcmeppjfjledfacDoor
open Go.Lib (itoa)

theorem dec_itoa {v : Int} (h : 0 ≤ v) : dec v = itoa v := by
  unfold dec Lib.itoa
  rw [if_neg (by omega)]
theorem join_snoc {L : List (List UInt8)} (h : L ≠ []) (a : List UInt8) : joinW (L ++ [a]) = joinW L ++ 32 :: a := by
  induction L with
  | nil => exact absurd rfl h
  | cons b r ih =>
    cases r with
    | nil => rfl
    | cons c t =>
      have := ih (by simp)
      rw [List.cons_append, join_cons (a := b) (r := c :: t ++ [a]) (by simp), this, join_cons (a := b) (r := c :: t) (by simp)]
      simp
/-- The arcs' numbers, one behind the other. -/
def flat (F T G : Nat → Int) : Nat → List Int
  | 0 => []
  | k + 1 => flat F T G k ++ [F k, T k, G k]
theorem flat_len (F T G : Nat → Int) : ∀ n, (flat F T G n).length = 3 * n
  | 0 => rfl
  | k + 1 => by simp [flat, flat_len F T G k]; omega
theorem flat_get (F T G : Nat → Int) : ∀ (n k : Nat), k < n → (flat F T G n).getD (3 * k) 0 = F k ∧ (flat F T G n).getD (3 * k + 1) 0 = T k ∧ (flat F T G n).getD (3 * k + 2) 0 = G k
  | 0, k, h => by omega
  | n + 1, k, h => by
    have hl := flat_len F T G n
    simp only [flat, List.getD_eq_getElem?_getD]
    by_cases hk : k < n
    · have ih := flat_get F T G n k hk
      simp only [List.getD_eq_getElem?_getD] at ih
      rw [List.getElem?_append_left (by omega), List.getElem?_append_left (by omega), List.getElem?_append_left (by omega)]
      exact ih
    · have hkn : k = n := by omega
      subst hkn
      rw [List.getElem?_append_right (by omega), List.getElem?_append_right (by omega), List.getElem?_append_right (by omega), hl]
      simp
theorem list_flat {F T G : Nat → Int} : ∀ (n : Nat) (l : List Int), l.length = 3 * n → (∀ k, k < n → l.getD (3 * k) 0 = F k ∧ l.getD (3 * k + 1) 0 = T k ∧ l.getD (3 * k + 2) 0 = G k) → flat F T G n = l := by
  intro n l hl h
  have hf := flat_len F T G n
  apply List.ext_getElem (by omega)
  intro i h1 h2
  have e : ∀ (m : List Int) (hm : i < m.length), m[i] = m.getD i 0 := fun m hm => by simp [hm]
  rw [e _ h1, e _ h2]
  have hk : i / 3 < n := by omega
  obtain ⟨a, b, c⟩ := flat_get F T G n (i / 3) hk
  obtain ⟨a', b', c'⟩ := h (i / 3) hk
  have hi : i = 3 * (i / 3) ∨ i = 3 * (i / 3) + 1 ∨ i = 3 * (i / 3) + 2 := by omega
  rcases hi with hi | hi | hi
  · rw [hi, a, a']
  · rw [hi, b, b']
  · rw [hi, c, c']

end Go.Proofs.YtcmeppjfjledfacDoor
