/-
  The program's heap: one more is put into it.
-/
import Derived.Test.YticckgmkhgnmfaaDoorPack3
import Derived.Deep.RegionLaw
set_option linter.unusedVariables false
set_option linter.unusedSimpArgs false
namespace Go.Proofs.YticckgmkhgnmfaaDoor
open Go.RowKit Go.Maps
attribute [local go_sem ↓] Go.wp_at_zero Go.wp_at_succ

theorem hlist_store {w1 : World} {hb g cap n : Nat} {v : Value} {E : Nat → Int × Int} (hblk : w1.heap[hb]? = some (.cells #[v] 124 (0, 0))) (hp : PRow w1 g cap n E) (hg : hb < g) : HList (w1.setCell ⟨hb, 0, none⟩ (.slice (some ⟨g, 0, none⟩) n cap)) hb g cap n E :=
  ⟨by simp [World.setCell, Array.getElem?_modify, hblk], hp.of_block (Below.heap_setCell _ _ _ _ (Nat.ne_of_gt hg)), hg⟩

set_option maxRecDepth 1000000 in
set_option maxHeartbeats 4000000 in
theorem put_any (hb n : Nat) (v : Value) (E : Nat → Int × Int) (q s : Int) (hn : n ≤ 1000000000) (w : World) (h : Heap0 w hb v n E) :
    Calls Tryd.prog 87 #[.pointer (some ⟨hb, 0, none⟩), .agg #[.int .i64 q, .int .i64 s]] w fun e w' => e = .returned (.tuple #[]) ∧ ∃ g cap E', HList w' hb g cap (n + 1) E' ∧ (∀ x, Mem E' (n + 1) x ↔ Mem (upP E n (q, s)) (n + 1) x) ∧ Stays w w' hb v.ownBlock ∧ (w.heap.size ≤ g ∨ some g = v.ownBlock) := by
  have mA := ahead_at
  have mE := ahead_enters
  have c0 := h.word
  have f0 := h.wfree
  have hlt0 : hb < w.heap.size := lt_of_cell c0
  have hown := h.2
  go_enter Tryd.func87, Tryd.ntmps87
  go_wp2
  go_region_law ((refine step_append_pair rfl _ _ rfl hb n v E rfl (World.ownsRow.drew ((hown.alloc _).alloc _)) ⟨w.heap.size + 1, 0, none⟩ 1 q s rfl (by simp [go_sem]) (by simp [go_sem]) hn (by simp; omega) ?_; intro g cap w1 hp hg hblk hc1 hf1 hbe hgo0))
  all_goals have hbel1 : Stays w w1 hb v.ownBlock := (Stays.of_below (((Below.refl w.heap.size w).alloc (Nat.le_refl _) _).alloc (by simp) _).drew).trans hbe
  all_goals have hgo : w.heap.size ≤ g ∨ some g = v.ownBlock := hgo0.elim (fun e => Or.inl (by simp at e; omega)) Or.inr
  all_goals have hH1 := hlist_store (hblk.trans (((((Below.refl (hb + 1) w).alloc (by omega) _).alloc (by simp; omega) _).drew.block hb (by omega)).trans h.1)) hp hg
  all_goals clear hp hblk hbe hc1 hf1 c0 f0 hown hgo0
  all_goals have hbel2 := hbel1.setH 0 (.slice (some ⟨g, 0, none⟩) (n + 1) cap)
  all_goals have hw0 := hH1.word
  all_goals go_wp2
  all_goals
    go_loopw [4] (fun i wr => ∃ (k : Nat) (E1 : Nat → Int × Int), k ≤ n ∧ i = .int .i64 k ∧ HList wr hb g cap (n + 1) E1 ∧ (∀ x, Mem E1 (n + 1) x ↔ Mem (upP E n (q, s)) (n + 1) x) ∧ Stays w wr hb v.ownBlock) (fun i _ => (intOf i).toNat)
    case atStart => exact ⟨n, _, Nat.le_refl _, rfl, hH1, fun _ => Iff.rfl, hbel2⟩
    case round =>
      obtain ⟨k, E1, hk, rfl, hH, hmem, hbel⟩ := hrel
      have HM : Hid (∀ x, Mem E1 (n + 1) x ↔ Mem (upP E n (q, s)) (n + 1) x) := hmem
      clear hmem hH1 hbel1 hbel2 hw0 h
      have c0 := hH.word
      have f0 := hH.wfree
      have hlt0 : hb < wr.heap.size := lt_of_cell c0
      have hlt1 : g < wr.heap.size := hH.2.1.lt
      by_cases h1 : 0 < k
      rotate_left
      · have hk0 : k = 0 := by omega
        subst hk0
        go_wp2
        simp [bodyPost, results, Tryd.results87, go_sem]
        exact ⟨g, cap, E1, hH, fun a b => HM.out (a, b), hbel, hgo⟩
      obtain ⟨o, ho⟩ : ∃ o : Nat, o = (k - 1) / 2 := ⟨_, rfl⟩
      have hok : o < k := by omega
      have hk0 : k < n + 1 := by omega
      have hu0 : o < n + 1 := by omega
      obtain ⟨a0, a1⟩ := hH.2.1.cells hk0
      obtain ⟨b0, b1⟩ := hH.2.1.cells hu0
      have hw1 : IntKind.i64.wrap ((k : Int) - 1) = (k : Int) - 1 := by rw [IntKind.wrap_i64]; omega
      have hov : Int.tdiv ((k : Int) - 1) 2 = (o : Int) := by rw [Int.tdiv_eq_ediv_of_nonneg (by omega)]; omega
      have hx1 : (k : Int) < (n : Int) + 1 := by omega
      have hx2 : (o : Int) < (n : Int) + 1 := by omega
      clear ho
      go_wp2
      by_cases hA : (E1 k).2 < (E1 o).2
      · have hAd : decide ((E1 k).2 < (E1 o).2) = true := by simpa using hA
        go_region_held3 (fun w' => w'.cell? ⟨hb, 0, none⟩ = some (.slice (some ⟨g, 0, none⟩) (n + 1) cap) ∧ w'.cell? ⟨g, k * 2, none⟩ = some (.int .i64 (E1 k).1) ∧ w'.cell? ⟨g, k * 2 + 1, none⟩ = some (.int .i64 (E1 k).2) ∧ w'.cell? ⟨g, o * 2, none⟩ = some (.int .i64 (E1 o).1) ∧ w'.cell? ⟨g, o * 2 + 1, none⟩ = some (.int .i64 (E1 o).2))
          (first | (go_split_ands; refine ⟨?_, ?_, ?_, ?_, ?_⟩ <;> exact keep_cell ‹_› (Nat.le_refl _) (by assumption)) | go_keep)
          (first | (go_at_call 130; refine (ahead_any _ _ _ _ _).mono ?_; rintro e wz ⟨rfl, hbz⟩))
        have hS := (hH.drewN _).below hbz (Nat.le_refl _)
        have hT := (hbel.drewN _).next hbz
        have e0 := hS.word
        have e1 := hS.wfree
        obtain ⟨p0, p1⟩ := hS.2.1.cells hk0
        obtain ⟨q0, q1⟩ := hS.2.1.cells hu0
        have z0 := hS.2.1.frozen (k * 2)
        have z1 := hS.2.1.frozen (k * 2 + 1)
        have z2 := hS.2.1.frozen (o * 2)
        have z3 := hS.2.1.frozen (o * 2 + 1)
        have PK : Hid (HList wz hb g cap (n + 1) E1 ∧ Stays w wz hb v.ownBlock ∧ ∀ x, Mem E1 (n + 1) x ↔ Mem (upP E n (q, s)) (n + 1) x) := ⟨hS, hT, HM.out⟩
        have hgb : g ≠ hb := Nat.ne_of_gt hS.2.2
        clear hbz mA mE hS hT HM hH hbel c0 f0 hlt0 hlt1 a0 a1 b0 b1 hA hAd
        have n1 : ¬ (o * 2 = k * 2) := by omega
        have n2 : ¬ (o * 2 = k * 2 + 1) := by omega
        have n3 : ¬ (o * 2 + 1 = k * 2) := by omega
        have n4 : ¬ (o * 2 + 1 = k * 2 + 1) := by omega
        go_wp2
        go_big_region
        obtain ⟨hS, hT, HM⟩ := PK.out
        have R := ((hS.put2 hk0 (E1 o).1 (E1 o).2).put2 hu0 (E1 k).1 (E1 k).2).drew1
        have B := ((((hT.setG (k * 2) hgo (.int .i64 (E1 o).1)).setG (k * 2 + 1) hgo (.int .i64 (E1 o).2)).setG (o * 2) hgo (.int .i64 (E1 k).1)).setG (o * 2 + 1) hgo (.int .i64 (E1 k).2)).drew1
        have M : ∀ x, Mem (swp E1 k o) (n + 1) x ↔ Mem (upP E n (q, s)) (n + 1) x := fun x => (mem_swp hk0 hu0 x).trans (HM x)
        clear PK hS hT HM e0 e1 p0 p1 q0 q1 z0 z1 z2 z3 n1 n2 n3 n4
        go_wp2
        go_roundw
        case rel => exact ⟨o, swp E1 k o, by omega, by go_num, R, M, B⟩
        case measure => simp [intOf]; omega
      · have hAd : decide ((E1 k).2 < (E1 o).2) = false := by simpa using hA
        go_region_held3 (fun w' => w'.cell? ⟨hb, 0, none⟩ = some (.slice (some ⟨g, 0, none⟩) (n + 1) cap) ∧ w'.cell? ⟨g, k * 2, none⟩ = some (.int .i64 (E1 k).1) ∧ w'.cell? ⟨g, k * 2 + 1, none⟩ = some (.int .i64 (E1 k).2) ∧ w'.cell? ⟨g, o * 2, none⟩ = some (.int .i64 (E1 o).1) ∧ w'.cell? ⟨g, o * 2 + 1, none⟩ = some (.int .i64 (E1 o).2))
          (first | (go_split_ands; refine ⟨?_, ?_, ?_, ?_, ?_⟩ <;> exact keep_cell ‹_› (Nat.le_refl _) (by assumption)) | go_keep)
          (first | (go_at_call 130; refine (ahead_any _ _ _ _ _).mono ?_; rintro e wz ⟨rfl, hbz⟩))
        have hS := (hH.drewN _).below hbz (Nat.le_refl _)
        have hT := (hbel.drewN _).next hbz
        go_wp2
        simp [bodyPost, results, Tryd.results87, go_sem]
        exact ⟨g, cap, E1, hS, fun a b => HM.out (a, b), hT, hgo⟩

end Go.Proofs.YticckgmkhgnmfaaDoor
