/-
  Helpers, merged: RoomO, LeafB, ChdImpl, ChdS.
-/
import Derived.Test.YteibbknpcgcjjabGreatPack10
import Derived.Test.YteibbknpcgcjjabGreatPack4
import Derived.Laws.CopyOwn
import Derived.Test.YteibbknpcgcjjabGreatPack5
import Derived.Test.YteibbknpcgcjjabGreatPack9
/-
  The program's room: its lists handed out.
-/
set_option linter.unusedVariables false
set_option linter.unusedSimpArgs false
namespace Go.Proofs.YteibbknpcgcjjabGreat
open Go.RowKit Go.Deep Go.Joins Go.Maps
attribute [local go_sem ↓] Go.wp_at_zero Go.wp_at_succ

theorem drew_b (X : World) : Below X.heap.size X X.drew := (Below.refl _ _).drew
theorem me2_at (A : World) (b : Nat) (x y : Value) (h : b = A.heap.size) : VHas (A.alloc (.cells #[x, y] 34)) b 34 2 (me2 x y) := by subst h; exact me2_new A x y
theorem run_copy_ints (w : World) (c m b : Nat) (f h : Nat → Int) (hc : IHas w c m f) (hb : IHas w b m h) (ty : TypeId) :
    ∃ w', (Builtin.copy_ #[27, 27] ty #[.slice (some ⟨c, 0, none⟩) m m, .slice (some ⟨b, 0, none⟩) m m]).run Tryz.prog w = .ok (goInt m) w' ∧ IHas w' c m h ∧ w.grownBy w' (some c) := by
  have hsz : (Tryz.prog.info? 2).map (·.size) = some 1 := by kernel_rfl
  obtain ⟨cur, hh, hs, hcu⟩ := hc
  have hr := run_copy_row (P := Tryz.prog) w 27 27 ty 2 c 0 m m ⟨b, 0, none⟩ m m cur 2 (icells h m) Tryz.underlying27 hsz hh (by rw [icells_len]; simp) (fun j v hv => by
    by_cases hj : j < m
    · rw [icells_at hj] at hv
      simp at hv
      subst hv
      have : (⟨b, 0, none⟩ : Addr).add j = ⟨b, j, none⟩ := by unfold Addr.add; split <;> simp_all
      rw [this]
      exact hb.cell hj
    · rw [List.getElem?_eq_none (by rw [icells_len]; omega)] at hv
      cases hv) (by rw [icells_len]; omega) (fun v hv => by
    simp [icells] at hv
    obtain ⟨j, _, rfl⟩ := hv
    rfl)
  rw [icells_len] at hr
  refine ⟨_, hr, ?_, gr_setRow w c _⟩
  refine ⟨_, setRow_heap w c cur _ _ _ hh, ?_, fun j hj => ?_⟩
  · simp [icells]
  · simp only [List.take_zero, List.nil_append, List.getElem?_toArray]
    rw [List.getElem?_append_left (by rw [icells_len]; omega), icells_at hj]

/-- The new lists, their box and the result's. -/
structure HO (w : World) (m c d bx : Nat) (X : World) : Prop where
  bel : Below w.heap.size w X
  box : VHas X bx 34 2 (me2 (.slice (some ⟨c, 0, none⟩) m m) (.slice (some ⟨d, 0, none⟩) m m))
  res : VHas X w.heap.size 34 2 (me2 (.slice none 0 0) (.slice none 0 0))
  ic : IHas X c m (fun _ => 0)
  id : IHas X d m (fun _ => 0)
  ne : c ≠ d ∧ c ≠ bx ∧ d ≠ bx
  ge : w.heap.size < c ∧ w.heap.size < d ∧ w.heap.size < bx
theorem ho_0 (w : World) (m : Nat) : HO w m (w.heap.size + 1) (w.heap.size + 1 + 1) (w.heap.size + 1 + 1 + 1) (((((w.alloc (.cells #[.slice none 0 0, .slice none 0 0] 34)).alloc (.cells (madeCells #[.int .i64 0] m) 2)).alloc (.cells (madeCells #[.int .i64 0] m) 2)).alloc (.cells #[.slice (some ⟨w.heap.size + 1, 0, none⟩) m m, .slice (some ⟨w.heap.size + 1 + 1, 0, none⟩) m m] 34)).drew) := by
  refine ⟨(((((Below.refl _ w).alloc (Nat.le_refl _) _).alloc (by simp) _).alloc (by simp; omega) _).alloc (by simp; omega) _).drew, ?_, ?_, ?_, ?_, by omega, by omega⟩
  · repeat (first | (refine me2_at _ _ _ _ ?_; simp; done) | refine VHas.alloc ?_ _ | refine VHas.next ?_ (drew_b _))
  · repeat (first | (refine me2_at _ _ _ _ ?_; simp; done) | (refine me2_at _ _ _ _ ?_; rfl) | refine VHas.alloc ?_ _ | refine VHas.next ?_ (drew_b _))
  · repeat (first | (refine made_at _ _ _ ?_; simp; done) | refine IHas.al ?_ _ | refine IHas.nx ?_ (drew_b _))
  · repeat (first | (refine made_at _ _ _ ?_; simp; done) | refine IHas.al ?_ _ | refine IHas.nx ?_ (drew_b _))
theorem ho_1 (w : World) (m : Nat) : HO w m (w.heap.size + 1) (w.heap.size + 1 + 1 + 1) (w.heap.size + 1 + 1) (((((w.alloc (.cells #[.slice none 0 0, .slice none 0 0] 34)).alloc (.cells (madeCells #[.int .i64 0] m) 2)).alloc (.cells #[.slice (some ⟨w.heap.size + 1, 0, none⟩) m m, .slice (some ⟨w.heap.size + 1 + 1 + 1, 0, none⟩) m m] 34)).alloc (.cells (madeCells #[.int .i64 0] m) 2)).drew) := by
  refine ⟨(((((Below.refl _ w).alloc (Nat.le_refl _) _).alloc (by simp) _).alloc (by simp; omega) _).alloc (by simp; omega) _).drew, ?_, ?_, ?_, ?_, by omega, by omega⟩
  · repeat (first | (refine me2_at _ _ _ _ ?_; simp; done) | refine VHas.alloc ?_ _ | refine VHas.next ?_ (drew_b _))
  · repeat (first | (refine me2_at _ _ _ _ ?_; simp; done) | (refine me2_at _ _ _ _ ?_; rfl) | refine VHas.alloc ?_ _ | refine VHas.next ?_ (drew_b _))
  · repeat (first | (refine made_at _ _ _ ?_; simp; done) | refine IHas.al ?_ _ | refine IHas.nx ?_ (drew_b _))
  · repeat (first | (refine made_at _ _ _ ?_; simp; done) | refine IHas.al ?_ _ | refine IHas.nx ?_ (drew_b _))
theorem ho_2 (w : World) (m : Nat) : HO w m (w.heap.size + 1 + 1) (w.heap.size + 1) (w.heap.size + 1 + 1 + 1) (((((w.alloc (.cells #[.slice none 0 0, .slice none 0 0] 34)).alloc (.cells (madeCells #[.int .i64 0] m) 2)).alloc (.cells (madeCells #[.int .i64 0] m) 2)).alloc (.cells #[.slice (some ⟨w.heap.size + 1 + 1, 0, none⟩) m m, .slice (some ⟨w.heap.size + 1, 0, none⟩) m m] 34)).drew) := by
  refine ⟨(((((Below.refl _ w).alloc (Nat.le_refl _) _).alloc (by simp) _).alloc (by simp; omega) _).alloc (by simp; omega) _).drew, ?_, ?_, ?_, ?_, by omega, by omega⟩
  · repeat (first | (refine me2_at _ _ _ _ ?_; simp; done) | refine VHas.alloc ?_ _ | refine VHas.next ?_ (drew_b _))
  · repeat (first | (refine me2_at _ _ _ _ ?_; simp; done) | (refine me2_at _ _ _ _ ?_; rfl) | refine VHas.alloc ?_ _ | refine VHas.next ?_ (drew_b _))
  · repeat (first | (refine made_at _ _ _ ?_; simp; done) | refine IHas.al ?_ _ | refine IHas.nx ?_ (drew_b _))
  · repeat (first | (refine made_at _ _ _ ?_; simp; done) | refine IHas.al ?_ _ | refine IHas.nx ?_ (drew_b _))
theorem ho_3 (w : World) (m : Nat) : HO w m (w.heap.size + 1 + 1 + 1) (w.heap.size + 1) (w.heap.size + 1 + 1) (((((w.alloc (.cells #[.slice none 0 0, .slice none 0 0] 34)).alloc (.cells (madeCells #[.int .i64 0] m) 2)).alloc (.cells #[.slice (some ⟨w.heap.size + 1 + 1 + 1, 0, none⟩) m m, .slice (some ⟨w.heap.size + 1, 0, none⟩) m m] 34)).alloc (.cells (madeCells #[.int .i64 0] m) 2)).drew) := by
  refine ⟨(((((Below.refl _ w).alloc (Nat.le_refl _) _).alloc (by simp) _).alloc (by simp; omega) _).alloc (by simp; omega) _).drew, ?_, ?_, ?_, ?_, by omega, by omega⟩
  · repeat (first | (refine me2_at _ _ _ _ ?_; simp; done) | refine VHas.alloc ?_ _ | refine VHas.next ?_ (drew_b _))
  · repeat (first | (refine me2_at _ _ _ _ ?_; simp; done) | (refine me2_at _ _ _ _ ?_; rfl) | refine VHas.alloc ?_ _ | refine VHas.next ?_ (drew_b _))
  · repeat (first | (refine made_at _ _ _ ?_; simp; done) | refine IHas.al ?_ _ | refine IHas.nx ?_ (drew_b _))
  · repeat (first | (refine made_at _ _ _ ?_; simp; done) | refine IHas.al ?_ _ | refine IHas.nx ?_ (drew_b _))
theorem ho_4 (w : World) (m : Nat) : HO w m (w.heap.size + 1 + 1) (w.heap.size + 1 + 1 + 1) (w.heap.size + 1) (((((w.alloc (.cells #[.slice none 0 0, .slice none 0 0] 34)).alloc (.cells #[.slice (some ⟨w.heap.size + 1 + 1, 0, none⟩) m m, .slice (some ⟨w.heap.size + 1 + 1 + 1, 0, none⟩) m m] 34)).alloc (.cells (madeCells #[.int .i64 0] m) 2)).alloc (.cells (madeCells #[.int .i64 0] m) 2)).drew) := by
  refine ⟨(((((Below.refl _ w).alloc (Nat.le_refl _) _).alloc (by simp) _).alloc (by simp; omega) _).alloc (by simp; omega) _).drew, ?_, ?_, ?_, ?_, by omega, by omega⟩
  · repeat (first | (refine me2_at _ _ _ _ ?_; simp; done) | refine VHas.alloc ?_ _ | refine VHas.next ?_ (drew_b _))
  · repeat (first | (refine me2_at _ _ _ _ ?_; simp; done) | (refine me2_at _ _ _ _ ?_; rfl) | refine VHas.alloc ?_ _ | refine VHas.next ?_ (drew_b _))
  · repeat (first | (refine made_at _ _ _ ?_; simp; done) | refine IHas.al ?_ _ | refine IHas.nx ?_ (drew_b _))
  · repeat (first | (refine made_at _ _ _ ?_; simp; done) | refine IHas.al ?_ _ | refine IHas.nx ?_ (drew_b _))
theorem ho_5 (w : World) (m : Nat) : HO w m (w.heap.size + 1 + 1 + 1) (w.heap.size + 1 + 1) (w.heap.size + 1) (((((w.alloc (.cells #[.slice none 0 0, .slice none 0 0] 34)).alloc (.cells #[.slice (some ⟨w.heap.size + 1 + 1 + 1, 0, none⟩) m m, .slice (some ⟨w.heap.size + 1 + 1, 0, none⟩) m m] 34)).alloc (.cells (madeCells #[.int .i64 0] m) 2)).alloc (.cells (madeCells #[.int .i64 0] m) 2)).drew) := by
  refine ⟨(((((Below.refl _ w).alloc (Nat.le_refl _) _).alloc (by simp) _).alloc (by simp; omega) _).alloc (by simp; omega) _).drew, ?_, ?_, ?_, ?_, by omega, by omega⟩
  · repeat (first | (refine me2_at _ _ _ _ ?_; simp; done) | refine VHas.alloc ?_ _ | refine VHas.next ?_ (drew_b _))
  · repeat (first | (refine me2_at _ _ _ _ ?_; simp; done) | (refine me2_at _ _ _ _ ?_; rfl) | refine VHas.alloc ?_ _ | refine VHas.next ?_ (drew_b _))
  · repeat (first | (refine made_at _ _ _ ?_; simp; done) | refine IHas.al ?_ _ | refine IHas.nx ?_ (drew_b _))
  · repeat (first | (refine made_at _ _ _ ?_; simp; done) | refine IHas.al ?_ _ | refine IHas.nx ?_ (drew_b _))

set_option maxRecDepth 100000 in
set_option maxHeartbeats 4000000 in
theorem handOut_any (w0 : World) (k m : Nat) (P L H : Nat → Int) (eo : Option Addr) (ecap b g rcap bm bU bV : Nat) (U V : Nat → Int) (hm : m ≤ 1000) (w : World) (hR : Room w0 k P eo m ecap L H b g rcap bm bU bV U V w) :
    Calls Tryz.prog 31 #[.pointer (some ⟨b, 0, none⟩)] w fun e w' => ∃ c d, e = .returned (.agg #[.slice (some ⟨c, 0, none⟩) m m, .slice (some ⟨d, 0, none⟩) m m]) ∧ w.heap.size ≤ c ∧ w.heap.size ≤ d ∧ c ≠ d ∧ IHas w' c m U ∧ IHas w' d m V ∧ w.heap.size + 2 ≤ w'.heap.size ∧ Below w.heap.size w w' := by
  have hmk := make_ints m (by omega)
  have hbl : b < w.heap.size := (Array.getElem?_eq_some_iff.1 hR.box).1
  have hul := hR.up.lt
  have hvl := hR.dn.lt
  have c0 : w.cell? ⟨b, 0, none⟩ = some (.slice eo m ecap) := hR.cell rfl
  go_enter Tryz.func31, Tryz.ntmps31
  go_wp2_with fail
  go_region_held3 (fun X : World => X.cell? ⟨b, 0, none⟩ = some (.slice eo m ecap))
    (first | assumption | (refine keep_cell (B := w.heap.size) (W := w) ?_ (Nat.le_refl _) c0; repeat (first | exact Below.refl _ _ | refine Below.alloc ?_ (by simp <;> omega) _ | refine Below.setCell ?_ (by simp <;> omega) _ | refine Below.drew ?_)))
    (fail)
  · generalize hWX : World.drew _ = X
    have hX : HO w m (w.heap.size + 1) (w.heap.size + 1 + 1) (w.heap.size + 1 + 1 + 1) X := by rw [← hWX]; exact ho_0 w m
    clear hWX
    generalize w.heap.size + 1 + 1 + 1 = bx at hX ⊢
    generalize w.heap.size + 1 + 1 = d at hX ⊢
    generalize w.heap.size + 1 = c at hX ⊢
    clear hmk
    have hge := hX.ge
    have hne := hX.ne
    have bD := below_next hX.bel (Nat.le_refl _) (drew_b X)
    have bxD := hX.box.next (drew_b X)
    have rsD := hX.res.next (drew_b X)
    have idD := hX.id.nx (drew_b X)
    obtain ⟨Y, hrun1, iY, hgY⟩ := run_copy_ints X.drew c m bU _ U (hX.ic.nx (drew_b X)) (hR.up.below bD hul) 3
    have x0 : X.drew.cell? ⟨bx, 0, none⟩ = some (.slice (some ⟨c, 0, none⟩) m m) := bxD.cell (j := 0) (by omega)
    have x3 : X.drew.cell? ⟨b, 3, none⟩ = some (.slice (some ⟨bU, 0, none⟩) m m) := keep_cell bD (Nat.le_refl _) (hR.cell rfl)
    have y0 := cell_turn x0 hgY (by omega)
    have y3 := cell_turn x3 hgY (by omega)
    have bY : Below w.heap.size w Y := below_far (B := w.heap.size) bD hgY (fun x e => by cases e; omega) (Nat.le_refl _)
    have bxY := bxD.grown hgY (by simp; omega)
    have rsY := rsD.grown hgY (by simp; omega)
    have idY := idD.grown hgY (by simp; omega)
    clear hX bD bxD rsD idD hgY
    go_wp2_with fail
    go_region_held3 (fun X : World => X.cell? ⟨bx, 0, none⟩ = some (.slice (some ⟨c, 0, none⟩) m m) ∧ X.cell? ⟨b, 3, none⟩ = some (.slice (some ⟨bU, 0, none⟩) m m))
      (first | exact ⟨y0, y3⟩ | exact ⟨x0, x3⟩ | assumption)
      (fail)
    clear x0 x3 y0 y3 hrun1
    have bD := below_next bY (Nat.le_refl _) (drew_b Y)
    have bxD := bxY.next (drew_b Y)
    have rsD := rsY.next (drew_b Y)
    have icD := iY.nx (drew_b Y)
    obtain ⟨Z, hrun1, iZ, hgZ⟩ := run_copy_ints Y.drew d m bV _ V (idY.nx (drew_b Y)) (hR.dn.below bD hvl) 3
    have x0 : Y.drew.cell? ⟨bx, 1, none⟩ = some (.slice (some ⟨d, 0, none⟩) m m) := bxD.cell (j := 1) (by omega)
    have x3 : Y.drew.cell? ⟨b, 4, none⟩ = some (.slice (some ⟨bV, 0, none⟩) m m) := keep_cell bD (Nat.le_refl _) (hR.cell rfl)
    have y0 := cell_turn x0 hgZ (by omega)
    have y3 := cell_turn x3 hgZ (by omega)
    have bZ : Below w.heap.size w Z := below_far (B := w.heap.size) bD hgZ (fun x e => by cases e; omega) (Nat.le_refl _)
    have bxZ := bxD.grown hgZ (by simp; omega)
    have rsZ := rsD.grown hgZ (by simp; omega)
    have icZ := icD.grown hgZ (by simp; omega)
    clear bD bxD rsD icD hgZ bY bxY rsY iY idY
    go_wp2_with fail
    go_region_held3 (fun X : World => X.cell? ⟨bx, 1, none⟩ = some (.slice (some ⟨d, 0, none⟩) m m) ∧ X.cell? ⟨b, 4, none⟩ = some (.slice (some ⟨bV, 0, none⟩) m m))
      (first | exact ⟨y0, y3⟩ | exact ⟨x0, x3⟩ | assumption)
      (fail)
    clear x0 x3 y0 y3 hrun1
    have x0 : Z.cell? ⟨bx, 0, none⟩ = some (.slice (some ⟨c, 0, none⟩) m m) := bxZ.cell (j := 0) (by omega)
    have x1 : Z.cell? ⟨bx, 1, none⟩ = some (.slice (some ⟨d, 0, none⟩) m m) := bxZ.cell (j := 1) (by omega)
    have r0 : Z.cell? ⟨w.heap.size, 0, none⟩ = some (.slice none 0 0) := rsZ.cell (j := 0) (by omega)
    have r1 : Z.cell? ⟨w.heap.size, 1, none⟩ = some (.slice none 0 0) := rsZ.cell (j := 1) (by omega)
    have z0 := rsZ.frozen 0
    have z1 := rsZ.frozen 1
    have hlx := bxZ.lt
    go_wp2
    have hB4 := ret_below bZ (s := w.heap.size) (Nat.le_refl _) (.slice (some ⟨c, 0, none⟩) m m) (.slice (some ⟨d, 0, none⟩) m m)
    have d0 : ((Z.setCell ⟨w.heap.size, 0, none⟩ (.slice (some ⟨c, 0, none⟩) m m)).setCell ⟨w.heap.size, 1, none⟩ (.slice (some ⟨d, 0, none⟩) m m)).cell? ⟨w.heap.size, 0, none⟩ = some (.slice (some ⟨c, 0, none⟩) m m) := by simp [go_sem, r0, r1]
    have d1 : ((Z.setCell ⟨w.heap.size, 0, none⟩ (.slice (some ⟨c, 0, none⟩) m m)).setCell ⟨w.heap.size, 1, none⟩ (.slice (some ⟨d, 0, none⟩) m m)).cell? ⟨w.heap.size, 1, none⟩ = some (.slice (some ⟨d, 0, none⟩) m m) := by simp [go_sem, r0, r1]
    have hU4 := icZ.of_block (ret_block (W := Z) (s := w.heap.size) (b := c) (.slice (some ⟨c, 0, none⟩) m m) (.slice (some ⟨d, 0, none⟩) m m) (by omega))
    have hV4 := iZ.of_block (ret_block (W := Z) (s := w.heap.size) (b := d) (.slice (some ⟨c, 0, none⟩) m m) (.slice (some ⟨d, 0, none⟩) m m) (by omega))
    have hs4 : w.heap.size + 2 ≤ ((Z.setCell ⟨w.heap.size, 0, none⟩ (.slice (some ⟨c, 0, none⟩) m m)).setCell ⟨w.heap.size, 1, none⟩ (.slice (some ⟨d, 0, none⟩) m m)).heap.size := by simp [World.setCell]; omega
    generalize ((Z.setCell ⟨w.heap.size, 0, none⟩ (.slice (some ⟨c, 0, none⟩) m m)).setCell ⟨w.heap.size, 1, none⟩ (.slice (some ⟨d, 0, none⟩) m m)) = W4 at hB4 d0 d1 hU4 hV4 hs4 ⊢
    clear bZ bxZ rsZ icZ iZ x0 x1 r0 r1 z0 z1
    simp [bodyPost, results, Tryz.results31, go_sem, d0, d1]
    exact ⟨c, d, by simp, by omega, by omega, by omega, hU4, hV4, hs4, hB4⟩
  · generalize hWX : World.drew _ = X
    have hX : HO w m (w.heap.size + 1) (w.heap.size + 1 + 1 + 1) (w.heap.size + 1 + 1) X := by rw [← hWX]; exact ho_1 w m
    clear hWX
    generalize w.heap.size + 1 + 1 + 1 = d at hX ⊢
    generalize w.heap.size + 1 + 1 = bx at hX ⊢
    generalize w.heap.size + 1 = c at hX ⊢
    clear hmk
    have hge := hX.ge
    have hne := hX.ne
    have bD := below_next hX.bel (Nat.le_refl _) (drew_b X)
    have bxD := hX.box.next (drew_b X)
    have rsD := hX.res.next (drew_b X)
    have idD := hX.id.nx (drew_b X)
    obtain ⟨Y, hrun1, iY, hgY⟩ := run_copy_ints X.drew c m bU _ U (hX.ic.nx (drew_b X)) (hR.up.below bD hul) 3
    have x0 : X.drew.cell? ⟨bx, 0, none⟩ = some (.slice (some ⟨c, 0, none⟩) m m) := bxD.cell (j := 0) (by omega)
    have x3 : X.drew.cell? ⟨b, 3, none⟩ = some (.slice (some ⟨bU, 0, none⟩) m m) := keep_cell bD (Nat.le_refl _) (hR.cell rfl)
    have y0 := cell_turn x0 hgY (by omega)
    have y3 := cell_turn x3 hgY (by omega)
    have bY : Below w.heap.size w Y := below_far (B := w.heap.size) bD hgY (fun x e => by cases e; omega) (Nat.le_refl _)
    have bxY := bxD.grown hgY (by simp; omega)
    have rsY := rsD.grown hgY (by simp; omega)
    have idY := idD.grown hgY (by simp; omega)
    clear hX bD bxD rsD idD hgY
    go_wp2_with fail
    go_region_held3 (fun X : World => X.cell? ⟨bx, 0, none⟩ = some (.slice (some ⟨c, 0, none⟩) m m) ∧ X.cell? ⟨b, 3, none⟩ = some (.slice (some ⟨bU, 0, none⟩) m m))
      (first | exact ⟨y0, y3⟩ | exact ⟨x0, x3⟩ | assumption)
      (fail)
    clear x0 x3 y0 y3 hrun1
    have bD := below_next bY (Nat.le_refl _) (drew_b Y)
    have bxD := bxY.next (drew_b Y)
    have rsD := rsY.next (drew_b Y)
    have icD := iY.nx (drew_b Y)
    obtain ⟨Z, hrun1, iZ, hgZ⟩ := run_copy_ints Y.drew d m bV _ V (idY.nx (drew_b Y)) (hR.dn.below bD hvl) 3
    have x0 : Y.drew.cell? ⟨bx, 1, none⟩ = some (.slice (some ⟨d, 0, none⟩) m m) := bxD.cell (j := 1) (by omega)
    have x3 : Y.drew.cell? ⟨b, 4, none⟩ = some (.slice (some ⟨bV, 0, none⟩) m m) := keep_cell bD (Nat.le_refl _) (hR.cell rfl)
    have y0 := cell_turn x0 hgZ (by omega)
    have y3 := cell_turn x3 hgZ (by omega)
    have bZ : Below w.heap.size w Z := below_far (B := w.heap.size) bD hgZ (fun x e => by cases e; omega) (Nat.le_refl _)
    have bxZ := bxD.grown hgZ (by simp; omega)
    have rsZ := rsD.grown hgZ (by simp; omega)
    have icZ := icD.grown hgZ (by simp; omega)
    clear bD bxD rsD icD hgZ bY bxY rsY iY idY
    go_wp2_with fail
    go_region_held3 (fun X : World => X.cell? ⟨bx, 1, none⟩ = some (.slice (some ⟨d, 0, none⟩) m m) ∧ X.cell? ⟨b, 4, none⟩ = some (.slice (some ⟨bV, 0, none⟩) m m))
      (first | exact ⟨y0, y3⟩ | exact ⟨x0, x3⟩ | assumption)
      (fail)
    clear x0 x3 y0 y3 hrun1
    have x0 : Z.cell? ⟨bx, 0, none⟩ = some (.slice (some ⟨c, 0, none⟩) m m) := bxZ.cell (j := 0) (by omega)
    have x1 : Z.cell? ⟨bx, 1, none⟩ = some (.slice (some ⟨d, 0, none⟩) m m) := bxZ.cell (j := 1) (by omega)
    have r0 : Z.cell? ⟨w.heap.size, 0, none⟩ = some (.slice none 0 0) := rsZ.cell (j := 0) (by omega)
    have r1 : Z.cell? ⟨w.heap.size, 1, none⟩ = some (.slice none 0 0) := rsZ.cell (j := 1) (by omega)
    have z0 := rsZ.frozen 0
    have z1 := rsZ.frozen 1
    have hlx := bxZ.lt
    go_wp2
    have hB4 := ret_below bZ (s := w.heap.size) (Nat.le_refl _) (.slice (some ⟨c, 0, none⟩) m m) (.slice (some ⟨d, 0, none⟩) m m)
    have d0 : ((Z.setCell ⟨w.heap.size, 0, none⟩ (.slice (some ⟨c, 0, none⟩) m m)).setCell ⟨w.heap.size, 1, none⟩ (.slice (some ⟨d, 0, none⟩) m m)).cell? ⟨w.heap.size, 0, none⟩ = some (.slice (some ⟨c, 0, none⟩) m m) := by simp [go_sem, r0, r1]
    have d1 : ((Z.setCell ⟨w.heap.size, 0, none⟩ (.slice (some ⟨c, 0, none⟩) m m)).setCell ⟨w.heap.size, 1, none⟩ (.slice (some ⟨d, 0, none⟩) m m)).cell? ⟨w.heap.size, 1, none⟩ = some (.slice (some ⟨d, 0, none⟩) m m) := by simp [go_sem, r0, r1]
    have hU4 := icZ.of_block (ret_block (W := Z) (s := w.heap.size) (b := c) (.slice (some ⟨c, 0, none⟩) m m) (.slice (some ⟨d, 0, none⟩) m m) (by omega))
    have hV4 := iZ.of_block (ret_block (W := Z) (s := w.heap.size) (b := d) (.slice (some ⟨c, 0, none⟩) m m) (.slice (some ⟨d, 0, none⟩) m m) (by omega))
    have hs4 : w.heap.size + 2 ≤ ((Z.setCell ⟨w.heap.size, 0, none⟩ (.slice (some ⟨c, 0, none⟩) m m)).setCell ⟨w.heap.size, 1, none⟩ (.slice (some ⟨d, 0, none⟩) m m)).heap.size := by simp [World.setCell]; omega
    generalize ((Z.setCell ⟨w.heap.size, 0, none⟩ (.slice (some ⟨c, 0, none⟩) m m)).setCell ⟨w.heap.size, 1, none⟩ (.slice (some ⟨d, 0, none⟩) m m)) = W4 at hB4 d0 d1 hU4 hV4 hs4 ⊢
    clear bZ bxZ rsZ icZ iZ x0 x1 r0 r1 z0 z1
    simp [bodyPost, results, Tryz.results31, go_sem, d0, d1]
    exact ⟨c, d, by simp, by omega, by omega, by omega, hU4, hV4, hs4, hB4⟩
  · generalize hWX : World.drew _ = X
    have hX : HO w m (w.heap.size + 1 + 1) (w.heap.size + 1) (w.heap.size + 1 + 1 + 1) X := by rw [← hWX]; exact ho_2 w m
    clear hWX
    generalize w.heap.size + 1 + 1 + 1 = bx at hX ⊢
    generalize w.heap.size + 1 + 1 = c at hX ⊢
    generalize w.heap.size + 1 = d at hX ⊢
    clear hmk
    have hge := hX.ge
    have hne := hX.ne
    have bD := below_next hX.bel (Nat.le_refl _) (drew_b X)
    have bxD := hX.box.next (drew_b X)
    have rsD := hX.res.next (drew_b X)
    have idD := hX.id.nx (drew_b X)
    obtain ⟨Y, hrun1, iY, hgY⟩ := run_copy_ints X.drew c m bU _ U (hX.ic.nx (drew_b X)) (hR.up.below bD hul) 3
    have x0 : X.drew.cell? ⟨bx, 0, none⟩ = some (.slice (some ⟨c, 0, none⟩) m m) := bxD.cell (j := 0) (by omega)
    have x3 : X.drew.cell? ⟨b, 3, none⟩ = some (.slice (some ⟨bU, 0, none⟩) m m) := keep_cell bD (Nat.le_refl _) (hR.cell rfl)
    have y0 := cell_turn x0 hgY (by omega)
    have y3 := cell_turn x3 hgY (by omega)
    have bY : Below w.heap.size w Y := below_far (B := w.heap.size) bD hgY (fun x e => by cases e; omega) (Nat.le_refl _)
    have bxY := bxD.grown hgY (by simp; omega)
    have rsY := rsD.grown hgY (by simp; omega)
    have idY := idD.grown hgY (by simp; omega)
    clear hX bD bxD rsD idD hgY
    go_wp2_with fail
    go_region_held3 (fun X : World => X.cell? ⟨bx, 0, none⟩ = some (.slice (some ⟨c, 0, none⟩) m m) ∧ X.cell? ⟨b, 3, none⟩ = some (.slice (some ⟨bU, 0, none⟩) m m))
      (first | exact ⟨y0, y3⟩ | exact ⟨x0, x3⟩ | assumption)
      (fail)
    clear x0 x3 y0 y3 hrun1
    have bD := below_next bY (Nat.le_refl _) (drew_b Y)
    have bxD := bxY.next (drew_b Y)
    have rsD := rsY.next (drew_b Y)
    have icD := iY.nx (drew_b Y)
    obtain ⟨Z, hrun1, iZ, hgZ⟩ := run_copy_ints Y.drew d m bV _ V (idY.nx (drew_b Y)) (hR.dn.below bD hvl) 3
    have x0 : Y.drew.cell? ⟨bx, 1, none⟩ = some (.slice (some ⟨d, 0, none⟩) m m) := bxD.cell (j := 1) (by omega)
    have x3 : Y.drew.cell? ⟨b, 4, none⟩ = some (.slice (some ⟨bV, 0, none⟩) m m) := keep_cell bD (Nat.le_refl _) (hR.cell rfl)
    have y0 := cell_turn x0 hgZ (by omega)
    have y3 := cell_turn x3 hgZ (by omega)
    have bZ : Below w.heap.size w Z := below_far (B := w.heap.size) bD hgZ (fun x e => by cases e; omega) (Nat.le_refl _)
    have bxZ := bxD.grown hgZ (by simp; omega)
    have rsZ := rsD.grown hgZ (by simp; omega)
    have icZ := icD.grown hgZ (by simp; omega)
    clear bD bxD rsD icD hgZ bY bxY rsY iY idY
    go_wp2_with fail
    go_region_held3 (fun X : World => X.cell? ⟨bx, 1, none⟩ = some (.slice (some ⟨d, 0, none⟩) m m) ∧ X.cell? ⟨b, 4, none⟩ = some (.slice (some ⟨bV, 0, none⟩) m m))
      (first | exact ⟨y0, y3⟩ | exact ⟨x0, x3⟩ | assumption)
      (fail)
    clear x0 x3 y0 y3 hrun1
    have x0 : Z.cell? ⟨bx, 0, none⟩ = some (.slice (some ⟨c, 0, none⟩) m m) := bxZ.cell (j := 0) (by omega)
    have x1 : Z.cell? ⟨bx, 1, none⟩ = some (.slice (some ⟨d, 0, none⟩) m m) := bxZ.cell (j := 1) (by omega)
    have r0 : Z.cell? ⟨w.heap.size, 0, none⟩ = some (.slice none 0 0) := rsZ.cell (j := 0) (by omega)
    have r1 : Z.cell? ⟨w.heap.size, 1, none⟩ = some (.slice none 0 0) := rsZ.cell (j := 1) (by omega)
    have z0 := rsZ.frozen 0
    have z1 := rsZ.frozen 1
    have hlx := bxZ.lt
    go_wp2
    have hB4 := ret_below bZ (s := w.heap.size) (Nat.le_refl _) (.slice (some ⟨c, 0, none⟩) m m) (.slice (some ⟨d, 0, none⟩) m m)
    have d0 : ((Z.setCell ⟨w.heap.size, 0, none⟩ (.slice (some ⟨c, 0, none⟩) m m)).setCell ⟨w.heap.size, 1, none⟩ (.slice (some ⟨d, 0, none⟩) m m)).cell? ⟨w.heap.size, 0, none⟩ = some (.slice (some ⟨c, 0, none⟩) m m) := by simp [go_sem, r0, r1]
    have d1 : ((Z.setCell ⟨w.heap.size, 0, none⟩ (.slice (some ⟨c, 0, none⟩) m m)).setCell ⟨w.heap.size, 1, none⟩ (.slice (some ⟨d, 0, none⟩) m m)).cell? ⟨w.heap.size, 1, none⟩ = some (.slice (some ⟨d, 0, none⟩) m m) := by simp [go_sem, r0, r1]
    have hU4 := icZ.of_block (ret_block (W := Z) (s := w.heap.size) (b := c) (.slice (some ⟨c, 0, none⟩) m m) (.slice (some ⟨d, 0, none⟩) m m) (by omega))
    have hV4 := iZ.of_block (ret_block (W := Z) (s := w.heap.size) (b := d) (.slice (some ⟨c, 0, none⟩) m m) (.slice (some ⟨d, 0, none⟩) m m) (by omega))
    have hs4 : w.heap.size + 2 ≤ ((Z.setCell ⟨w.heap.size, 0, none⟩ (.slice (some ⟨c, 0, none⟩) m m)).setCell ⟨w.heap.size, 1, none⟩ (.slice (some ⟨d, 0, none⟩) m m)).heap.size := by simp [World.setCell]; omega
    generalize ((Z.setCell ⟨w.heap.size, 0, none⟩ (.slice (some ⟨c, 0, none⟩) m m)).setCell ⟨w.heap.size, 1, none⟩ (.slice (some ⟨d, 0, none⟩) m m)) = W4 at hB4 d0 d1 hU4 hV4 hs4 ⊢
    clear bZ bxZ rsZ icZ iZ x0 x1 r0 r1 z0 z1
    simp [bodyPost, results, Tryz.results31, go_sem, d0, d1]
    exact ⟨c, d, by simp, by omega, by omega, by omega, hU4, hV4, hs4, hB4⟩
  · generalize hWX : World.drew _ = X
    have hX : HO w m (w.heap.size + 1 + 1 + 1) (w.heap.size + 1) (w.heap.size + 1 + 1) X := by rw [← hWX]; exact ho_3 w m
    clear hWX
    generalize w.heap.size + 1 + 1 + 1 = c at hX ⊢
    generalize w.heap.size + 1 + 1 = bx at hX ⊢
    generalize w.heap.size + 1 = d at hX ⊢
    clear hmk
    have hge := hX.ge
    have hne := hX.ne
    have bD := below_next hX.bel (Nat.le_refl _) (drew_b X)
    have bxD := hX.box.next (drew_b X)
    have rsD := hX.res.next (drew_b X)
    have idD := hX.id.nx (drew_b X)
    obtain ⟨Y, hrun1, iY, hgY⟩ := run_copy_ints X.drew c m bU _ U (hX.ic.nx (drew_b X)) (hR.up.below bD hul) 3
    have x0 : X.drew.cell? ⟨bx, 0, none⟩ = some (.slice (some ⟨c, 0, none⟩) m m) := bxD.cell (j := 0) (by omega)
    have x3 : X.drew.cell? ⟨b, 3, none⟩ = some (.slice (some ⟨bU, 0, none⟩) m m) := keep_cell bD (Nat.le_refl _) (hR.cell rfl)
    have y0 := cell_turn x0 hgY (by omega)
    have y3 := cell_turn x3 hgY (by omega)
    have bY : Below w.heap.size w Y := below_far (B := w.heap.size) bD hgY (fun x e => by cases e; omega) (Nat.le_refl _)
    have bxY := bxD.grown hgY (by simp; omega)
    have rsY := rsD.grown hgY (by simp; omega)
    have idY := idD.grown hgY (by simp; omega)
    clear hX bD bxD rsD idD hgY
    go_wp2_with fail
    go_region_held3 (fun X : World => X.cell? ⟨bx, 0, none⟩ = some (.slice (some ⟨c, 0, none⟩) m m) ∧ X.cell? ⟨b, 3, none⟩ = some (.slice (some ⟨bU, 0, none⟩) m m))
      (first | exact ⟨y0, y3⟩ | exact ⟨x0, x3⟩ | assumption)
      (fail)
    clear x0 x3 y0 y3 hrun1
    have bD := below_next bY (Nat.le_refl _) (drew_b Y)
    have bxD := bxY.next (drew_b Y)
    have rsD := rsY.next (drew_b Y)
    have icD := iY.nx (drew_b Y)
    obtain ⟨Z, hrun1, iZ, hgZ⟩ := run_copy_ints Y.drew d m bV _ V (idY.nx (drew_b Y)) (hR.dn.below bD hvl) 3
    have x0 : Y.drew.cell? ⟨bx, 1, none⟩ = some (.slice (some ⟨d, 0, none⟩) m m) := bxD.cell (j := 1) (by omega)
    have x3 : Y.drew.cell? ⟨b, 4, none⟩ = some (.slice (some ⟨bV, 0, none⟩) m m) := keep_cell bD (Nat.le_refl _) (hR.cell rfl)
    have y0 := cell_turn x0 hgZ (by omega)
    have y3 := cell_turn x3 hgZ (by omega)
    have bZ : Below w.heap.size w Z := below_far (B := w.heap.size) bD hgZ (fun x e => by cases e; omega) (Nat.le_refl _)
    have bxZ := bxD.grown hgZ (by simp; omega)
    have rsZ := rsD.grown hgZ (by simp; omega)
    have icZ := icD.grown hgZ (by simp; omega)
    clear bD bxD rsD icD hgZ bY bxY rsY iY idY
    go_wp2_with fail
    go_region_held3 (fun X : World => X.cell? ⟨bx, 1, none⟩ = some (.slice (some ⟨d, 0, none⟩) m m) ∧ X.cell? ⟨b, 4, none⟩ = some (.slice (some ⟨bV, 0, none⟩) m m))
      (first | exact ⟨y0, y3⟩ | exact ⟨x0, x3⟩ | assumption)
      (fail)
    clear x0 x3 y0 y3 hrun1
    have x0 : Z.cell? ⟨bx, 0, none⟩ = some (.slice (some ⟨c, 0, none⟩) m m) := bxZ.cell (j := 0) (by omega)
    have x1 : Z.cell? ⟨bx, 1, none⟩ = some (.slice (some ⟨d, 0, none⟩) m m) := bxZ.cell (j := 1) (by omega)
    have r0 : Z.cell? ⟨w.heap.size, 0, none⟩ = some (.slice none 0 0) := rsZ.cell (j := 0) (by omega)
    have r1 : Z.cell? ⟨w.heap.size, 1, none⟩ = some (.slice none 0 0) := rsZ.cell (j := 1) (by omega)
    have z0 := rsZ.frozen 0
    have z1 := rsZ.frozen 1
    have hlx := bxZ.lt
    go_wp2
    have hB4 := ret_below bZ (s := w.heap.size) (Nat.le_refl _) (.slice (some ⟨c, 0, none⟩) m m) (.slice (some ⟨d, 0, none⟩) m m)
    have d0 : ((Z.setCell ⟨w.heap.size, 0, none⟩ (.slice (some ⟨c, 0, none⟩) m m)).setCell ⟨w.heap.size, 1, none⟩ (.slice (some ⟨d, 0, none⟩) m m)).cell? ⟨w.heap.size, 0, none⟩ = some (.slice (some ⟨c, 0, none⟩) m m) := by simp [go_sem, r0, r1]
    have d1 : ((Z.setCell ⟨w.heap.size, 0, none⟩ (.slice (some ⟨c, 0, none⟩) m m)).setCell ⟨w.heap.size, 1, none⟩ (.slice (some ⟨d, 0, none⟩) m m)).cell? ⟨w.heap.size, 1, none⟩ = some (.slice (some ⟨d, 0, none⟩) m m) := by simp [go_sem, r0, r1]
    have hU4 := icZ.of_block (ret_block (W := Z) (s := w.heap.size) (b := c) (.slice (some ⟨c, 0, none⟩) m m) (.slice (some ⟨d, 0, none⟩) m m) (by omega))
    have hV4 := iZ.of_block (ret_block (W := Z) (s := w.heap.size) (b := d) (.slice (some ⟨c, 0, none⟩) m m) (.slice (some ⟨d, 0, none⟩) m m) (by omega))
    have hs4 : w.heap.size + 2 ≤ ((Z.setCell ⟨w.heap.size, 0, none⟩ (.slice (some ⟨c, 0, none⟩) m m)).setCell ⟨w.heap.size, 1, none⟩ (.slice (some ⟨d, 0, none⟩) m m)).heap.size := by simp [World.setCell]; omega
    generalize ((Z.setCell ⟨w.heap.size, 0, none⟩ (.slice (some ⟨c, 0, none⟩) m m)).setCell ⟨w.heap.size, 1, none⟩ (.slice (some ⟨d, 0, none⟩) m m)) = W4 at hB4 d0 d1 hU4 hV4 hs4 ⊢
    clear bZ bxZ rsZ icZ iZ x0 x1 r0 r1 z0 z1
    simp [bodyPost, results, Tryz.results31, go_sem, d0, d1]
    exact ⟨c, d, by simp, by omega, by omega, by omega, hU4, hV4, hs4, hB4⟩
  · generalize hWX : World.drew _ = X
    have hX : HO w m (w.heap.size + 1 + 1) (w.heap.size + 1 + 1 + 1) (w.heap.size + 1) X := by rw [← hWX]; exact ho_4 w m
    clear hWX
    generalize w.heap.size + 1 + 1 + 1 = d at hX ⊢
    generalize w.heap.size + 1 + 1 = c at hX ⊢
    generalize w.heap.size + 1 = bx at hX ⊢
    clear hmk
    have hge := hX.ge
    have hne := hX.ne
    have bD := below_next hX.bel (Nat.le_refl _) (drew_b X)
    have bxD := hX.box.next (drew_b X)
    have rsD := hX.res.next (drew_b X)
    have idD := hX.id.nx (drew_b X)
    obtain ⟨Y, hrun1, iY, hgY⟩ := run_copy_ints X.drew c m bU _ U (hX.ic.nx (drew_b X)) (hR.up.below bD hul) 3
    have x0 : X.drew.cell? ⟨bx, 0, none⟩ = some (.slice (some ⟨c, 0, none⟩) m m) := bxD.cell (j := 0) (by omega)
    have x3 : X.drew.cell? ⟨b, 3, none⟩ = some (.slice (some ⟨bU, 0, none⟩) m m) := keep_cell bD (Nat.le_refl _) (hR.cell rfl)
    have y0 := cell_turn x0 hgY (by omega)
    have y3 := cell_turn x3 hgY (by omega)
    have bY : Below w.heap.size w Y := below_far (B := w.heap.size) bD hgY (fun x e => by cases e; omega) (Nat.le_refl _)
    have bxY := bxD.grown hgY (by simp; omega)
    have rsY := rsD.grown hgY (by simp; omega)
    have idY := idD.grown hgY (by simp; omega)
    clear hX bD bxD rsD idD hgY
    go_wp2_with fail
    go_region_held3 (fun X : World => X.cell? ⟨bx, 0, none⟩ = some (.slice (some ⟨c, 0, none⟩) m m) ∧ X.cell? ⟨b, 3, none⟩ = some (.slice (some ⟨bU, 0, none⟩) m m))
      (first | exact ⟨y0, y3⟩ | exact ⟨x0, x3⟩ | assumption)
      (fail)
    clear x0 x3 y0 y3 hrun1
    have bD := below_next bY (Nat.le_refl _) (drew_b Y)
    have bxD := bxY.next (drew_b Y)
    have rsD := rsY.next (drew_b Y)
    have icD := iY.nx (drew_b Y)
    obtain ⟨Z, hrun1, iZ, hgZ⟩ := run_copy_ints Y.drew d m bV _ V (idY.nx (drew_b Y)) (hR.dn.below bD hvl) 3
    have x0 : Y.drew.cell? ⟨bx, 1, none⟩ = some (.slice (some ⟨d, 0, none⟩) m m) := bxD.cell (j := 1) (by omega)
    have x3 : Y.drew.cell? ⟨b, 4, none⟩ = some (.slice (some ⟨bV, 0, none⟩) m m) := keep_cell bD (Nat.le_refl _) (hR.cell rfl)
    have y0 := cell_turn x0 hgZ (by omega)
    have y3 := cell_turn x3 hgZ (by omega)
    have bZ : Below w.heap.size w Z := below_far (B := w.heap.size) bD hgZ (fun x e => by cases e; omega) (Nat.le_refl _)
    have bxZ := bxD.grown hgZ (by simp; omega)
    have rsZ := rsD.grown hgZ (by simp; omega)
    have icZ := icD.grown hgZ (by simp; omega)
    clear bD bxD rsD icD hgZ bY bxY rsY iY idY
    go_wp2_with fail
    go_region_held3 (fun X : World => X.cell? ⟨bx, 1, none⟩ = some (.slice (some ⟨d, 0, none⟩) m m) ∧ X.cell? ⟨b, 4, none⟩ = some (.slice (some ⟨bV, 0, none⟩) m m))
      (first | exact ⟨y0, y3⟩ | exact ⟨x0, x3⟩ | assumption)
      (fail)
    clear x0 x3 y0 y3 hrun1
    have x0 : Z.cell? ⟨bx, 0, none⟩ = some (.slice (some ⟨c, 0, none⟩) m m) := bxZ.cell (j := 0) (by omega)
    have x1 : Z.cell? ⟨bx, 1, none⟩ = some (.slice (some ⟨d, 0, none⟩) m m) := bxZ.cell (j := 1) (by omega)
    have r0 : Z.cell? ⟨w.heap.size, 0, none⟩ = some (.slice none 0 0) := rsZ.cell (j := 0) (by omega)
    have r1 : Z.cell? ⟨w.heap.size, 1, none⟩ = some (.slice none 0 0) := rsZ.cell (j := 1) (by omega)
    have z0 := rsZ.frozen 0
    have z1 := rsZ.frozen 1
    have hlx := bxZ.lt
    go_wp2
    have hB4 := ret_below bZ (s := w.heap.size) (Nat.le_refl _) (.slice (some ⟨c, 0, none⟩) m m) (.slice (some ⟨d, 0, none⟩) m m)
    have d0 : ((Z.setCell ⟨w.heap.size, 0, none⟩ (.slice (some ⟨c, 0, none⟩) m m)).setCell ⟨w.heap.size, 1, none⟩ (.slice (some ⟨d, 0, none⟩) m m)).cell? ⟨w.heap.size, 0, none⟩ = some (.slice (some ⟨c, 0, none⟩) m m) := by simp [go_sem, r0, r1]
    have d1 : ((Z.setCell ⟨w.heap.size, 0, none⟩ (.slice (some ⟨c, 0, none⟩) m m)).setCell ⟨w.heap.size, 1, none⟩ (.slice (some ⟨d, 0, none⟩) m m)).cell? ⟨w.heap.size, 1, none⟩ = some (.slice (some ⟨d, 0, none⟩) m m) := by simp [go_sem, r0, r1]
    have hU4 := icZ.of_block (ret_block (W := Z) (s := w.heap.size) (b := c) (.slice (some ⟨c, 0, none⟩) m m) (.slice (some ⟨d, 0, none⟩) m m) (by omega))
    have hV4 := iZ.of_block (ret_block (W := Z) (s := w.heap.size) (b := d) (.slice (some ⟨c, 0, none⟩) m m) (.slice (some ⟨d, 0, none⟩) m m) (by omega))
    have hs4 : w.heap.size + 2 ≤ ((Z.setCell ⟨w.heap.size, 0, none⟩ (.slice (some ⟨c, 0, none⟩) m m)).setCell ⟨w.heap.size, 1, none⟩ (.slice (some ⟨d, 0, none⟩) m m)).heap.size := by simp [World.setCell]; omega
    generalize ((Z.setCell ⟨w.heap.size, 0, none⟩ (.slice (some ⟨c, 0, none⟩) m m)).setCell ⟨w.heap.size, 1, none⟩ (.slice (some ⟨d, 0, none⟩) m m)) = W4 at hB4 d0 d1 hU4 hV4 hs4 ⊢
    clear bZ bxZ rsZ icZ iZ x0 x1 r0 r1 z0 z1
    simp [bodyPost, results, Tryz.results31, go_sem, d0, d1]
    exact ⟨c, d, by simp, by omega, by omega, by omega, hU4, hV4, hs4, hB4⟩
  · generalize hWX : World.drew _ = X
    have hX : HO w m (w.heap.size + 1 + 1 + 1) (w.heap.size + 1 + 1) (w.heap.size + 1) X := by rw [← hWX]; exact ho_5 w m
    clear hWX
    generalize w.heap.size + 1 + 1 + 1 = c at hX ⊢
    generalize w.heap.size + 1 + 1 = d at hX ⊢
    generalize w.heap.size + 1 = bx at hX ⊢
    clear hmk
    have hge := hX.ge
    have hne := hX.ne
    have bD := below_next hX.bel (Nat.le_refl _) (drew_b X)
    have bxD := hX.box.next (drew_b X)
    have rsD := hX.res.next (drew_b X)
    have idD := hX.id.nx (drew_b X)
    obtain ⟨Y, hrun1, iY, hgY⟩ := run_copy_ints X.drew c m bU _ U (hX.ic.nx (drew_b X)) (hR.up.below bD hul) 3
    have x0 : X.drew.cell? ⟨bx, 0, none⟩ = some (.slice (some ⟨c, 0, none⟩) m m) := bxD.cell (j := 0) (by omega)
    have x3 : X.drew.cell? ⟨b, 3, none⟩ = some (.slice (some ⟨bU, 0, none⟩) m m) := keep_cell bD (Nat.le_refl _) (hR.cell rfl)
    have y0 := cell_turn x0 hgY (by omega)
    have y3 := cell_turn x3 hgY (by omega)
    have bY : Below w.heap.size w Y := below_far (B := w.heap.size) bD hgY (fun x e => by cases e; omega) (Nat.le_refl _)
    have bxY := bxD.grown hgY (by simp; omega)
    have rsY := rsD.grown hgY (by simp; omega)
    have idY := idD.grown hgY (by simp; omega)
    clear hX bD bxD rsD idD hgY
    go_wp2_with fail
    go_region_held3 (fun X : World => X.cell? ⟨bx, 0, none⟩ = some (.slice (some ⟨c, 0, none⟩) m m) ∧ X.cell? ⟨b, 3, none⟩ = some (.slice (some ⟨bU, 0, none⟩) m m))
      (first | exact ⟨y0, y3⟩ | exact ⟨x0, x3⟩ | assumption)
      (fail)
    clear x0 x3 y0 y3 hrun1
    have bD := below_next bY (Nat.le_refl _) (drew_b Y)
    have bxD := bxY.next (drew_b Y)
    have rsD := rsY.next (drew_b Y)
    have icD := iY.nx (drew_b Y)
    obtain ⟨Z, hrun1, iZ, hgZ⟩ := run_copy_ints Y.drew d m bV _ V (idY.nx (drew_b Y)) (hR.dn.below bD hvl) 3
    have x0 : Y.drew.cell? ⟨bx, 1, none⟩ = some (.slice (some ⟨d, 0, none⟩) m m) := bxD.cell (j := 1) (by omega)
    have x3 : Y.drew.cell? ⟨b, 4, none⟩ = some (.slice (some ⟨bV, 0, none⟩) m m) := keep_cell bD (Nat.le_refl _) (hR.cell rfl)
    have y0 := cell_turn x0 hgZ (by omega)
    have y3 := cell_turn x3 hgZ (by omega)
    have bZ : Below w.heap.size w Z := below_far (B := w.heap.size) bD hgZ (fun x e => by cases e; omega) (Nat.le_refl _)
    have bxZ := bxD.grown hgZ (by simp; omega)
    have rsZ := rsD.grown hgZ (by simp; omega)
    have icZ := icD.grown hgZ (by simp; omega)
    clear bD bxD rsD icD hgZ bY bxY rsY iY idY
    go_wp2_with fail
    go_region_held3 (fun X : World => X.cell? ⟨bx, 1, none⟩ = some (.slice (some ⟨d, 0, none⟩) m m) ∧ X.cell? ⟨b, 4, none⟩ = some (.slice (some ⟨bV, 0, none⟩) m m))
      (first | exact ⟨y0, y3⟩ | exact ⟨x0, x3⟩ | assumption)
      (fail)
    clear x0 x3 y0 y3 hrun1
    have x0 : Z.cell? ⟨bx, 0, none⟩ = some (.slice (some ⟨c, 0, none⟩) m m) := bxZ.cell (j := 0) (by omega)
    have x1 : Z.cell? ⟨bx, 1, none⟩ = some (.slice (some ⟨d, 0, none⟩) m m) := bxZ.cell (j := 1) (by omega)
    have r0 : Z.cell? ⟨w.heap.size, 0, none⟩ = some (.slice none 0 0) := rsZ.cell (j := 0) (by omega)
    have r1 : Z.cell? ⟨w.heap.size, 1, none⟩ = some (.slice none 0 0) := rsZ.cell (j := 1) (by omega)
    have z0 := rsZ.frozen 0
    have z1 := rsZ.frozen 1
    have hlx := bxZ.lt
    go_wp2
    have hB4 := ret_below bZ (s := w.heap.size) (Nat.le_refl _) (.slice (some ⟨c, 0, none⟩) m m) (.slice (some ⟨d, 0, none⟩) m m)
    have d0 : ((Z.setCell ⟨w.heap.size, 0, none⟩ (.slice (some ⟨c, 0, none⟩) m m)).setCell ⟨w.heap.size, 1, none⟩ (.slice (some ⟨d, 0, none⟩) m m)).cell? ⟨w.heap.size, 0, none⟩ = some (.slice (some ⟨c, 0, none⟩) m m) := by simp [go_sem, r0, r1]
    have d1 : ((Z.setCell ⟨w.heap.size, 0, none⟩ (.slice (some ⟨c, 0, none⟩) m m)).setCell ⟨w.heap.size, 1, none⟩ (.slice (some ⟨d, 0, none⟩) m m)).cell? ⟨w.heap.size, 1, none⟩ = some (.slice (some ⟨d, 0, none⟩) m m) := by simp [go_sem, r0, r1]
    have hU4 := icZ.of_block (ret_block (W := Z) (s := w.heap.size) (b := c) (.slice (some ⟨c, 0, none⟩) m m) (.slice (some ⟨d, 0, none⟩) m m) (by omega))
    have hV4 := iZ.of_block (ret_block (W := Z) (s := w.heap.size) (b := d) (.slice (some ⟨c, 0, none⟩) m m) (.slice (some ⟨d, 0, none⟩) m m) (by omega))
    have hs4 : w.heap.size + 2 ≤ ((Z.setCell ⟨w.heap.size, 0, none⟩ (.slice (some ⟨c, 0, none⟩) m m)).setCell ⟨w.heap.size, 1, none⟩ (.slice (some ⟨d, 0, none⟩) m m)).heap.size := by simp [World.setCell]; omega
    generalize ((Z.setCell ⟨w.heap.size, 0, none⟩ (.slice (some ⟨c, 0, none⟩) m m)).setCell ⟨w.heap.size, 1, none⟩ (.slice (some ⟨d, 0, none⟩) m m)) = W4 at hB4 d0 d1 hU4 hV4 hs4 ⊢
    clear bZ bxZ rsZ icZ iZ x0 x1 r0 r1 z0 z1
    simp [bodyPost, results, Tryz.results31, go_sem, d0, d1]
    exact ⟨c, d, by simp, by omega, by omega, by omega, hU4, hV4, hs4, hB4⟩

end Go.Proofs.YteibbknpcgcjjabGreat

/-
  The box of an answer that is made while its arguments are copied.
-/
set_option linter.unusedVariables false
set_option linter.unusedSimpArgs false
namespace Go.Proofs.YteibbknpcgcjjabGreat
open Go.RowKit

theorem cell_ret {W : World} {s x o : Nat} {a c v : Value} (h : W.cell? ⟨x, o, none⟩ = some v) (hne : x ≠ s) : ((W.setCell ⟨s, 0, none⟩ a).setCell ⟨s, 1, none⟩ c).cell? ⟨x, o, none⟩ = some v :=
  cell_turn (cell_turn h (gr_setCell _ _ _ _) hne) (gr_setCell _ _ _ _) hne
theorem hid_ret {w W : World} {s : Nat} {a c : Value} (h : Hid (Below w.heap.size w W)) (hs : w.heap.size ≤ s) : Hid (Below w.heap.size w ((W.setCell ⟨s, 0, none⟩ a).setCell ⟨s, 1, none⟩ c)) := ret_below h.out hs a c
theorem cell_re {X : World} {o o' : Obj} {x q : Nat} {v : Value} (h : (X.alloc o).cell? ⟨x, q, none⟩ = some v) (hx : x < X.heap.size) : (X.alloc o').cell? ⟨x, q, none⟩ = some v := by
  have h1 := Below.heap_alloc X o x hx
  have h2 := Below.heap_alloc X o' x hx
  simpa [World.cell?, h1, h2] using h
theorem hid_re {w X : World} {o o' : Obj} (h : Hid (Below w.heap.size w (X.alloc o))) (hx : w.heap.size ≤ X.heap.size) : Hid (Below w.heap.size w (X.alloc o')) :=
  ⟨h.out.os, h.out.tape, h.out.output, by simp; omega, fun k hk => (Below.heap_alloc X o' k (by omega)).trans ((Below.heap_alloc X o k (by omega)).symm.trans (h.out.block k hk))⟩
theorem nbx0 (Z : World) : (Z.alloc (.cells #[.slice none 0 0, .slice none 0 0] 34)).cell? ⟨Z.heap.size, 0, none⟩ = some (.slice none 0 0) := by simp [go_sem]
theorem nbx1 (Z : World) : (Z.alloc (.cells #[.slice none 0 0, .slice none 0 0] 34)).cell? ⟨Z.heap.size, 1, none⟩ = some (.slice none 0 0) := by simp [go_sem]
theorem nbz (Z : World) (o : Nat) : (Z.alloc (.cells #[.slice none 0 0, .slice none 0 0] 34)).frozen? ⟨Z.heap.size, o, none⟩ = false := by simp [go_sem]
theorem keep_fz {W W' : World} {b : Nat} {v : Value} (hb : Below W.heap.size W W') (hc : W.cell? ⟨b, 0, none⟩ = some v) (h : ∀ o, W.frozen? ⟨b, o, none⟩ = false) (o : Nat) : W'.frozen? ⟨b, o, none⟩ = false := by
  rw [(bcell hb).2 b o (lt_of_cell hc)]; exact h o
/-- The box of the answer, wherever it was made; all else is as it was behind the call. -/
structure LB (V : World) (s1 s2 : Value) (b : Nat) (X : World) : Prop where
  c0 : X.cell? ⟨b, 0, none⟩ = some s1
  c1 : X.cell? ⟨b, 1, none⟩ = some s2
  nx : ∀ q, q < V.heap.size → q ≠ b → X.heap[q]? = V.heap[q]?
  sz : V.heap.size ≤ X.heap.size
  lt : b < X.heap.size
theorem lb_new (V : World) (s1 s2 : Value) : LB V s1 s2 V.heap.size (V.alloc (.cells #[s1, s2] 34)) :=
  ⟨by simp [go_sem], by simp [go_sem], fun q hq _ => Below.heap_alloc V _ q hq, by simp, by simp⟩
theorem lb_set {V : World} {s1 s2 : Value} {b : Nat} {v0 v1 : Value} (h0 : V.cell? ⟨b, 0, none⟩ = some v0) (h1 : V.cell? ⟨b, 1, none⟩ = some v1) : LB V s1 s2 b ((V.setCell ⟨b, 0, none⟩ s1).setCell ⟨b, 1, none⟩ s2) :=
  ⟨by simp [go_sem, h0, h1], by simp [go_sem, h0, h1], fun q hq hne => ret_block s1 s2 hne, by simp [World.setCell], by have := lt_of_cell h0; simpa [World.setCell] using this⟩

end Go.Proofs.YteibbknpcgcjjabGreat

/-
  Chordal: the program's. For every list of at most 2^20 edges.
-/
set_option linter.unusedVariables false
set_option linter.unusedSimpArgs false
namespace Go.Proofs.YteibbknpcgcjjabGreat
open Go.RowKit Go.Maps
attribute [local go_sem ↓] Go.wp_at_zero Go.wp_at_succ

set_option maxRecDepth 100000 in
set_option maxHeartbeats 2000000 in
theorem implChordal_any (p : Int) (ao : Option Addr) (n cap : Nat) (L H : Nat → Int) (hn : n ≤ 1048576) (hcap : n ≤ cap) (w : World) (hr : ERow w ao n L H) :
    Calls Tryz.prog 46 #[.slice ao n cap, .int .i64 p] w fun e w' => BAns e (Chd p n L H) ∧ Below w.heap.size w w' := by
  rcases Bool.eq_false_or_eq_true (edgesB p n L H) with h | h
  rotate_left
  · have HC : Hid (¬ Chd p n L H) := fun hc => by rw [hc.1] at h; cases h
    go_enter Tryz.func46, Tryz.ntmps46
    go_wp2_with (go_at_call 104; refine (edgesOk_any p ao n cap L H hn _ hr).mono ?_; rintro e w1 ⟨rfl, hb1⟩)
    go_ret
    exact ⟨bans_no HC.out, hb1⟩
  have HC : Hid (Chd p n L H ↔ ChdTo n L H n) := ⟨fun x => x.2, fun x => ⟨h, x⟩⟩
  have hwf : EWf L H n := fun k hk => by
    simp [edgesB, inB] at h
    exact edge_wf (edB_at n h.2 k hk) (by omega)
  have HW : Hid (EWf L H n) := hwf
  clear hwf
  go_enter Tryz.func46, Tryz.ntmps46
  go_wp2_with fail
  refine (edgesOk_any p ao n cap L H hn _ hr).mono ?_
  rintro e w1 ⟨rfl, hb1⟩
  go_wp2_with fail
  refine (edgeNumbers_any ao n cap L H hn HW.out _ (hr.below hb1 (Nat.le_refl _))).mono ?_
  rintro e w2 ⟨rfl, hm2, hb2⟩
  have hA2 := below_next hb1 (Nat.le_refl _) hb2
  have hs1 := hb1.size
  clear hb1 hb2
  go_wp2
  go_loopw [20] (fun x wr => ∃ i : Nat, i ≤ n ∧ x = .int .i64 i ∧ ChdTo n L H i ∧ wr.ownsMap Tryz.prog 62 (plainElem Tryz.prog 3) w1.heap.size n (enums L H n) ∧ Below w.heap.size w wr) (fun x _ => n - (intOf x).toNat)
  case atStart => exact ⟨0, Nat.zero_le _, rfl, fun i hi => by omega, hm2, hA2⟩
  case round =>
    clear hm2 hA2
    obtain ⟨i, hi, rfl, hto, hm, hbel⟩ := hrel
    have HTO : Hid (ChdTo n L H i) := hto
    clear hto
    by_cases hlt : i < n
    rotate_left
    · have hin : i = n := by omega
      subst hin
      go_wp2
      go_ret
      exact ⟨bans_yes (HC.out.2 HTO.out), hbel⟩
    obtain ⟨b, o, hao, c0, c1⟩ := (hr.below hbel (Nat.le_refl _)) i hlt
    subst hao
    have hi1 : (0 : Int) ≤ (i : Int) := by omega
    have hi2 : (i : Int) < (n : Int) := by omega
    have hm' := hm.alloc (.cells #[.int .i64 (L i), .int .i64 (H i)] 62)
    have hb' := hbel.alloc (o := .cells #[.int .i64 (L i), .int .i64 (H i)] 62) hbel.size
    by_cases hc : cap = i + 1
    · have hin : n = i + 1 := by omega
      have HN : Hid (ChdTo n L H (i + 1)) := HTO.out.next (ChdAt.start n L H i) (Or.inl hin.symm) (by omega)
      subst hc
      have hz : n - (i + 1) = 0 := by omega
      go_wp2
      all_goals try omega
      go_loopw [30] (fun x wq => x = .int .i64 0 ∧ wq.ownsMap Tryz.prog 62 (plainElem Tryz.prog 3) w1.heap.size n (enums L H n) ∧ Below w.heap.size w wq) (fun x _ => 0)
      case atStart => exact ⟨rfl, hm', hb'⟩
      case round =>
        clear hm' hb' hm hbel
        obtain ⟨rfl, hm, hbel⟩ := hrel
        go_wp2
        go_roundw
        case rel => exact ⟨i + 1, by omega, by go_num, HN.out, hm, hbel⟩
        case measure => simp [intOf]; omega
    obtain ⟨W0, hW0⟩ : ∃ W0, W0 = wr := ⟨_, rfl⟩
    subst hW0
    have hc2 : i + 1 < cap := by omega
    have hfl : W0.heap.size < (W0.alloc (.cells #[.int .i64 (L i), .int .i64 (H i)] 62)).heap.size := by simp
    have hbw := hbel.size
    have f0 : (W0.alloc (.cells #[.int .i64 (L i), .int .i64 (H i)] 62)).cell? ⟨W0.heap.size, 0, none⟩ = some (.int .i64 (L i)) := by simp [go_sem]
    have f1 : (W0.alloc (.cells #[.int .i64 (L i), .int .i64 (H i)] 62)).cell? ⟨W0.heap.size, 1, none⟩ = some (.int .i64 (H i)) := by simp [go_sem]
    go_wp2
    go_loopw [30] (fun x wq => ∃ k : Nat, i + 1 + k ≤ n ∧ x = .int .i64 k ∧ ChdAt n L H i (i + 1 + k) ∧ wq.ownsMap Tryz.prog 62 (plainElem Tryz.prog 3) w1.heap.size n (enums L H n) ∧ wq.cell? ⟨W0.heap.size, 0, none⟩ = some (.int .i64 (L i)) ∧ wq.cell? ⟨W0.heap.size, 1, none⟩ = some (.int .i64 (H i)) ∧ Below w.heap.size w wq) (fun x _ => n - (intOf x).toNat)
    case atStart => exact ⟨0, by omega, rfl, ChdAt.start n L H i, hm', f0, f1, hb'⟩
    case round =>
      clear hm' hb' hm hbel f0 f1 hfl hbw
      obtain ⟨k, hk, rfl, hat, hm, f0, f1, hbel⟩ := hrel
      have HAT : Hid (ChdAt n L H i (i + 1 + k)) := hat
      clear hat c0 c1
      have hml := hm.lt
      have hfl := lt_of_cell f0
      by_cases hkn : i + 1 + k < n
      rotate_left
      · have e : i + 1 + k = n := by omega
        have HN : Hid (ChdTo n L H (i + 1)) := HTO.out.next HAT.out (Or.inl e) (by omega)
        have hd : ¬ (k : Int) < ((n - (i + 1) : Nat) : Int) := by omega
        go_wp2
        go_roundw
        case rel => exact ⟨i + 1, by omega, by go_num, HN.out, hm, hbel⟩
        case measure => simp [intOf]; omega
      obtain ⟨b', o', hao', d0, d1⟩ := (hr.below hbel (Nat.le_refl _)) (i + 1 + k) hkn
      simp only [Option.some.injEq, Addr.mk.injEq, and_true] at hao'
      obtain ⟨rfl, rfl⟩ := hao'
      have e0 : o + (i + 1 + k) * 2 = o + (i + 1) * 2 + k * 2 := by omega
      rw [e0] at d0 d1
      clear e0
      have hd : (k : Int) < ((n - (i + 1) : Nat) : Int) := by omega
      have hk0 : (0 : Int) ≤ (k : Int) := by omega
      have hm' := hm.alloc (.cells #[.int .i64 (L (i + 1 + k)), .int .i64 (H (i + 1 + k))] 62)
      have hb' := hbel.alloc (o := .cells #[.int .i64 (L (i + 1 + k)), .int .i64 (H (i + 1 + k))] 62) hbel.size
      have hB := Below.refl wr.heap.size wr
      have HB := hB.alloc (o := .cells #[.int .i64 (L (i + 1 + k)), .int .i64 (H (i + 1 + k))] 62) (Nat.le_refl _)
      have f0' := keep_cell HB (Nat.le_refl _) f0
      have f1' := keep_cell HB (Nat.le_refl _) f1
      clear hB HB
      by_cases hL : L (i + 1 + k) = L i
      rotate_left
      · have HN : Hid (ChdTo n L H (i + 1)) := HTO.out.next HAT.out (Or.inr hL) (by omega)
        go_wp2
        go_roundw
        case rel => exact ⟨i + 1, by omega, by go_num, HN.out, hm', hb'⟩
        case measure => simp [intOf]; omega
      have HL : Hid (L (i + 1 + k) = L i) := hL
      rw [hL] at d0 hm' hb' f0' f1'
      clear hL hm
      have hkey := key_edge (H i) (H (i + 1 + k)) (HW.out i hlt).2 (HW.out (i + 1 + k) hkn).2
      have hlook := enums_look L H (H i) (H (i + 1 + k)) (HW.out i hlt).2 (HW.out (i + 1 + k) hkn).2 n HW.out
      rcases hlook with ⟨hl1, hl2⟩ | ⟨q, hq, hq1, hq2, hl1, hl3⟩
      · have HS : Hid (¬ Hs n L H (H i) (H (i + 1 + k))) := fun ⟨x, h1, h2⟩ => hl2 x h1 h2
        clear hl2
        go_wp2_with (at_lookup; refine wpList_lookup_own_ok_int _ rfl _ _ 84 rfl 62 3 .i64 Tryz.keyLawE Tryz.underlying84 Tryz.underlying3 (Tryz.mapZeroE _) _ n _ rfl hm' _ _ rfl hkey ?_; intro cc hatk hwc)
        go_ret
        exact ⟨bans_no (fun hc => HAT.out.bad HL.out (by omega) hkn HS.out (HC.out.1 hc)), hb'⟩
      · have HS : Hid (Hs n L H (H i) (H (i + 1 + k))) := ⟨q, hq, hq1, hq2⟩
        clear hl3 hq1 hq2
        go_wp2_with (at_lookup; refine wpList_lookup_own_ok_int _ rfl _ _ 84 rfl 62 3 .i64 Tryz.keyLawE Tryz.underlying84 Tryz.underlying3 (Tryz.mapZeroE _) _ n _ rfl hm' _ _ rfl hkey ?_; intro cc hatk hwc)
        go_roundw
        case rel => exact ⟨k + 1, by omega, by go_num, HAT.out.next HL.out HS.out, hm', f0', f1', hb'⟩
        case measure => simp [intOf]; omega

end Go.Proofs.YteibbknpcgcjjabGreat

/-
  Chordal, the document's.
-/
set_option linter.unusedVariables false
set_option linter.unusedSimpArgs false
namespace Go.Proofs.YteibbknpcgcjjabGreat
open Go.RowKit
attribute [local go_sem ↓] Go.wp_at_zero Go.wp_at_succ

set_option maxHeartbeats 1600000 in
theorem specChordal_any (p : Int) (ao : Option Addr) (n cap : Nat) (L H : Nat → Int) (hn : n ≤ 1048576) (w : World) (hr : ERow w ao n L H) :
    Calls Tryz.prog 52 #[.slice ao n cap, .int .i64 p] w fun e w' => BAns e (Chd p n L H) ∧ Below w.heap.size w w' := by
  rcases Bool.eq_false_or_eq_true (edgesB p n L H) with h | h
  rotate_left
  · have HC : Hid (¬ Chd p n L H) := fun hc => by rw [hc.1] at h; cases h
    go_enter Tryz.func52, Tryz.ntmps52
    go_wp2_with (go_at_call 106; refine (l4Edges_any p ao n cap L H hn _ hr).mono ?_; rintro e w1 ⟨rfl, hb1⟩)
    go_ret
    exact ⟨bans_no HC.out, hb1⟩
  have HC : Hid (Chd p n L H ↔ ChdTo n L H n) := ⟨fun x => x.2, fun x => ⟨h, x⟩⟩
  go_enter Tryz.func52, Tryz.ntmps52
  go_wp2_with (go_at_call 106; refine (l4Edges_any p ao n cap L H hn _ hr).mono ?_; rintro e w1 ⟨rfl, hb1⟩)
  go_loopw [5] (fun x wr => ∃ i : Nat, i ≤ n ∧ x = .int .i64 i ∧ ChdTo n L H i ∧ Below w.heap.size w wr) (fun x _ => n - (intOf x).toNat)
  case atStart => exact ⟨0, Nat.zero_le _, rfl, fun i hi => by omega, hb1⟩
  case round =>
    clear hb1
    obtain ⟨i, hi, rfl, hto, hbel0⟩ := hrel
    have HTO : Hid (ChdTo n L H i) := hto
    clear hto
    by_cases hlt : i < n
    rotate_left
    · have hin : i = n := by omega
      subst hin
      go_wp2
      go_ret
      exact ⟨bans_yes (HC.out.2 HTO.out), hbel0⟩
    go_wp2
    go_loopw [6] (fun x wr => ∃ k : Nat, i < k ∧ k ≤ n ∧ x = .int .i64 k ∧ ChdAt n L H i k ∧ Below w.heap.size w wr) (fun x _ => n - (intOf x).toNat)
    case atStart => exact ⟨i + 1, by omega, by omega, by go_num, ChdAt.start n L H i, hbel0⟩
    case round =>
      clear hbel0
      obtain ⟨k, hik, hk, rfl, hat, hbel⟩ := hrel
      have HAT : Hid (ChdAt n L H i k) := hat
      clear hat
      by_cases hkn : k < n
      rotate_left
      · have e : k = n := by omega
        have HN : Hid (ChdTo n L H (i + 1)) := HTO.out.next HAT.out (Or.inl e) hik
        have hd : decide ((k : Int) < (n : Int)) = false := by simp; omega
        go_wp2
        go_quiet (fail)
        go_wp2
        go_roundw
        case rel => exact ⟨i + 1, by omega, by go_num, HN.out, below_drewN hbel _⟩
        case measure => simp [intOf]; omega
      obtain ⟨b, o, hao, c0, c1⟩ := (hr.below hbel (Nat.le_refl _)) i hlt
      obtain ⟨b', o', hao', d0, d1⟩ := (hr.below hbel (Nat.le_refl _)) k hkn
      rw [hao] at hao'
      simp only [Option.some.injEq, Addr.mk.injEq, and_true] at hao'
      obtain ⟨rfl, rfl⟩ := hao'
      have hR := hr.below hbel (Nat.le_refl _)
      subst hao
      have hd : decide ((k : Int) < (n : Int)) = true := by simp; omega
      have hk1 : (0 : Int) ≤ (k : Int) := by omega
      have hk2 : (k : Int) < (n : Int) := by omega
      have hi1 : (0 : Int) ≤ (i : Int) := by omega
      have hi2 : (i : Int) < (n : Int) := by omega
      by_cases hL : L k = L i
      rotate_left
      · have HN : Hid (ChdTo n L H (i + 1)) := HTO.out.next HAT.out (Or.inr hL) hik
        have hLd : decide (L k = L i) = false := by simpa using hL
        go_wp2
        go_quiet (fail)
        go_wp2
        go_roundw
        case rel => exact ⟨i + 1, by omega, by go_num, HN.out, below_drewN hbel _⟩
        case measure => simp [intOf]; omega
      have HL : Hid (L k = L i) := hL
      rw [hL] at d0
      clear hL
      go_wp2
      go_quiet (fail)
      have HB : Below w.heap.size w (wr.drewN nq).drew := (below_drewN hbel _).drew
      have HR : ERow (wr.drewN nq).drew (some ⟨b, o, none⟩) n L H := hR.below ((below_drewN (Below.refl wr.heap.size wr) nq).drew) (Nat.le_refl _)
      clear hR hbel
      go_wp2_with fail
      by_cases hs : Hs n L H (H i) (H k)
      · have HS : Hid (Hs n L H (H i) (H k)) := hs
        clear hs
        go_region_held3 (fun w' => w'.cell? ⟨b, o + i * 2 + 1, none⟩ = some (.int .i64 (H i)) ∧ w'.cell? ⟨b, o + k * 2 + 1, none⟩ = some (.int .i64 (H k)))
          (first | (go_split_ands; refine ⟨?_, ?_⟩ <;> exact keep_cell hb2 (Nat.le_refl _) (by assumption)) | go_keep)
          (first | (go_at_call 54; refine (l4Find_any _ n cap L H _ _ hn _ HR).mono ?_; rintro e w2 ⟨r, rfl, hrr, hb2⟩; have hrs := (show ¬ r < 0 from fun h => hrr.1 h HS.out)))
        have HB2 := below_next HB (Nat.le_refl _) hb2
        go_wp2
        go_roundw
        case rel => exact ⟨k + 1, by omega, by omega, by go_num, HAT.out.next HL.out HS.out, HB2⟩
        case measure => simp [intOf]; omega
      · have HS : Hid (¬ Hs n L H (H i) (H k)) := hs
        clear hs
        go_region_held3 (fun w' => w'.cell? ⟨b, o + i * 2 + 1, none⟩ = some (.int .i64 (H i)) ∧ w'.cell? ⟨b, o + k * 2 + 1, none⟩ = some (.int .i64 (H k)))
          (first | (go_split_ands; refine ⟨?_, ?_⟩ <;> exact keep_cell hb2 (Nat.le_refl _) (by assumption)) | go_keep)
          (first | (go_at_call 54; refine (l4Find_any _ n cap L H _ _ hn _ HR).mono ?_; rintro e w2 ⟨r, rfl, hrr, hb2⟩; have hrs := (show r < 0 from hrr.2 HS.out)))
        have HB2 := below_next HB (Nat.le_refl _) hb2
        go_wp2
        go_ret
        exact ⟨bans_no (fun hc => HAT.out.bad HL.out hik hkn HS.out (HC.out.1 hc)), HB2⟩

end Go.Proofs.YteibbknpcgcjjabGreat
