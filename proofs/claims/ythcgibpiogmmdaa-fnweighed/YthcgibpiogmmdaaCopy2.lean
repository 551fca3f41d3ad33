/-
  The document's copy of a map: its arcs in new memory.
-/
import Derived.Test.YthcgibpiogmmdaaHas
import Derived.Test.YthcgibpiogmmdaaMark
import Derived.Test.YthcgibpiogmmdaaWeigh
import Derived.Test.YthcgibpiogmmdaaOkImpl
set_option linter.unusedVariables false
set_option linter.unusedSimpArgs false
namespace Go.Proofs.Ythcgibpiogmmdaa
open Go.RowKit Go.Maps
attribute [local go_sem ↓] Go.wp_at_zero Go.wp_at_succ

theorem has_of_owns {w : World} {base g n cap : Nat} {f : Nat → Int} {xs : List Value} (h : w.ownsRow base 36 3 (.slice (some ⟨g, 0, none⟩) n cap) n xs) (hx : xs = cellsOf f (n * 3)) : Has w g n f ∧ base ≤ g := by
  obtain ⟨hl, h0 | ⟨g', cap', cur, hv, hb, hh, h1, h2, h3, h4⟩⟩ := h
  · simp at h0
  · simp at hv
    obtain ⟨rfl, rfl⟩ := hv
    refine ⟨⟨cur, hh, by rw [h3]; exact Nat.mul_le_mul_right 3 h1, fun j hj => ?_⟩, hb⟩
    subst hx
    have : (cur.toList.take (n * 3))[j]? = (cellsOf f (n * 3))[j]? := by rw [h4]
    rw [List.getElem?_take_of_lt hj, cellsOf, List.getElem?_map, List.getElem?_range hj] at this
    simpa using this
theorem keep_grown {W W' : World} {row : Option Nat} {b o : Nat} {v : Value} (hg : W.grownBy W' row) (hne : some b ≠ row) (h : W.cell? ⟨b, o, none⟩ = some v) : W'.cell? ⟨b, o, none⟩ = some v := hg.cell h hne
theorem keep_frozen {W W' : World} {row : Option Nat} {b o : Nat} (hg : W.grownBy W' row) (hne : some b ≠ row) (hlt : b < W.heap.size) (h : W.frozen? ⟨b, o, none⟩ = false) : W'.frozen? ⟨b, o, none⟩ = false := by
  rw [← h]; exact World.frozen?_of_block (hg.block b hlt hne)
theorem empty_owns (w : World) (o1 o2 : Obj) : (((w.alloc o1).alloc o2).alloc (.cells #[] 36)).ownsRow (w.heap.size + 2) 36 3 (.slice (some ⟨w.heap.size + 1 + 1, 0, none⟩) 0 0) 0 [] := by
  have := World.ownsRow_lit (base := w.heap.size + 2) (e := 36) (size := 3) ((w.alloc o1).alloc o2) #[] 0 (by simp) (by simp) (by simp)
  simpa using this
set_option maxRecDepth 100000 in
set_option maxHeartbeats 2000000 in
theorem l1Copy_pos (p : Int) (b o n cap : Nat) (F T G : Nat → Int) (hn : n ≤ 1048576) (hpos : 0 < n) (w : World) (hr : Row w (some ⟨b, o, none⟩) n F T G) :
    Calls Try.prog 49 #[.agg #[.int .i64 p, .slice (some ⟨b, o, none⟩) n cap]] w fun e w' => ∃ g cap', e = .returned (.agg #[.int .i64 p, .slice (some ⟨g, 0, none⟩) n cap']) ∧ w.heap.size ≤ g ∧ Has w' g n (ar F T G) ∧ Below w.heap.size w w' := by
  obtain ⟨i0, hi0, hz0, hz1, hz2⟩ := info_parts Try.infoArc
  go_enter Try.func49, Try.ntmps49
  go_wp2
  go_region_held3 (fun w' => w'.cell? ⟨w.heap.size, 0, none⟩ = some (.int .i64 p) ∧ w'.cell? ⟨w.heap.size, 1, none⟩ = some (.slice (some ⟨b, o, none⟩) n cap))
    (first | (simp [go_sem]; done) | (exact ⟨keep_grown hgrow (by simp [Value.ownBlock] <;> omega) (by simp [go_sem]), keep_grown hgrow (by simp [Value.ownBlock] <;> omega) (by simp [go_sem])⟩) | go_keep)
    ((refine step_append_lies _ (by rfl) _ _ _ (by rfl) (w.heap.size + 2) 36 i0 _ 3 24 Try.underlying24 hi0 hz0 hz1 hz2 rfl (by omega) (.slice (some ⟨w.heap.size + 1 + 1, 0, none⟩) 0 0) 0 [] (by rfl) (World.ownsRow.drew (empty_owns w _ _))
        ⟨b, o, none⟩ n cap (cellsOf (ar F T G) (n * 3)) (by rfl) (by simp [cellsOf]) (Row.news (((hr.alloc _).alloc _).alloc _)) (cellsOf_one _ _) hpos (by unfold maxLen; omega) (by omega) (by simp) (w.heap.size + 3) (by simp) ?_; intro g cap' w1 hown1 hgrow hat hlt; have t0 := keep_grown hgrow (b := w.heap.size + 1) (o := 0) (v := .int .i64 0) (by simp [Value.ownBlock] <;> omega) (by simp [go_sem]); have t1 := keep_grown hgrow (b := w.heap.size + 1) (o := 1) (v := .slice none 0 0) (by simp [Value.ownBlock] <;> omega) (by simp [go_sem]); have f0 := keep_frozen hgrow (b := w.heap.size + 1) (o := 0) (by simp [Value.ownBlock] <;> omega) (by simp) (by simp [go_sem]); have f1 := keep_frozen hgrow (b := w.heap.size + 1) (o := 1) (by simp [Value.ownBlock] <;> omega) (by simp) (by simp [go_sem])))
  go_wp2
  simp only [Nat.zero_add, List.nil_append] at hown1
  obtain ⟨hhas, hg2⟩ := has_of_owns hown1 rfl
  simp [bodyPost, results, Try.results49, go_sem, t0, t1, f0, f1]
  refine ⟨by omega, ?_, ?_⟩
  · exact (hhas.of_block (Below.heap_setCell _ _ _ _ (by simp; omega))).of_block (Below.heap_setCell _ _ _ _ (by simp; omega))
  · refine Below.setCell (Below.setCell (Below.grown (Below.drew ((((Below.refl _ _).alloc (Nat.le_refl _) _).alloc (by simp) _).alloc (by simp; omega) _)) hgrow (by simp; omega) ?_) (by simp) _) (by simp) _
    intro k hk
    simp [Value.ownBlock] at hk
    omega
set_option maxHeartbeats 2000000 in
theorem l1Copy_zero (p : Int) (ao : Option Addr) (cap : Nat) (w : World) :
    Calls Try.prog 49 #[.agg #[.int .i64 p, .slice ao 0 cap]] w fun e w' => ∃ g cap', e = .returned (.agg #[.int .i64 p, .slice (some ⟨g, 0, none⟩) 0 cap']) ∧ w.heap.size ≤ g ∧ g < w'.heap.size ∧ Below w.heap.size w w' := by
  have hsc : ∀ (a : Addr) (w : World), (storeCells a []).run Try.prog w = .ok () w := fun _ _ => rfl
  cases ao with
  | none =>
    go_enter Try.func49, Try.ntmps49
    go_wp2
    go_region
    all_goals go_wp2
    all_goals
      simp [bodyPost, results, Try.results49, go_sem]
      refine ⟨by omega, ?_⟩
      exact Below.drew ((((Below.refl _ _).alloc (Nat.le_refl _) _).alloc (by simp) _).alloc (by simp; omega) _)
  | some a =>
    go_enter Try.func49, Try.ntmps49
    go_wp2
    go_region
    all_goals go_wp2
    all_goals
      simp [bodyPost, results, Try.results49, go_sem]
      refine ⟨by omega, ?_⟩
      exact Below.drew ((((Below.refl _ _).alloc (Nat.le_refl _) _).alloc (by simp) _).alloc (by simp; omega) _)
/-- A copy of a map by the document: its arcs in new memory. -/
theorem l1Copy_any (p : Int) (ao : Option Addr) (n cap : Nat) (F T G : Nat → Int) (hn : n ≤ 1048576) (w : World) (hr : Row w ao n F T G) :
    Calls Try.prog 49 #[.agg #[.int .i64 p, .slice ao n cap]] w fun e w' => ∃ g cap', e = .returned (.agg #[.int .i64 p, .slice (some ⟨g, 0, none⟩) n cap']) ∧ w.heap.size ≤ g ∧ g < w'.heap.size ∧ (0 < n → Has w' g n (ar F T G)) ∧ Below w.heap.size w w' := by
  by_cases h : 0 < n
  · obtain ⟨b, o, e, _⟩ := hr 0 h
    subst e
    refine (l1Copy_pos p b o n cap F T G hn h w hr).mono ?_
    rintro e w' ⟨g, cap', rfl, h1, h2, h3⟩
    exact ⟨g, cap', rfl, h1, h2.lt, fun _ => h2, h3⟩
  · have e : n = 0 := by omega
    subst e
    refine (l1Copy_zero p ao cap w).mono ?_
    rintro e w' ⟨g, cap', rfl, h1, h2, h3⟩
    exact ⟨g, cap', rfl, h1, h2, fun h => by omega, h3⟩

end Go.Proofs.Ythcgibpiogmmdaa
