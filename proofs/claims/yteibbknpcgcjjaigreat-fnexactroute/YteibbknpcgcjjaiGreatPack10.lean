/-
  Helpers, merged: RoomO, Weigh, RtM, MetG, WtOk.
-/
import Derived.Test.YteibbknpcgcjjaiGreatPack9
import Derived.Test.YteibbknpcgcjjaiGreatPack3
import Derived.Laws.CopyOwn
import Derived.Test.YteibbknpcgcjjaiGreatPack1
import Derived.Test.YteibbknpcgcjjaiGreatPack2
import Derived.Maps.Own
import Derived.Maps.OwnOps
import Derived.Maps.OwnSet
import Derived.Maps.Views
import Derived.Deep.RegionHeld3
/-
  The program's room: its lists handed out.
-/
set_option linter.unusedVariables false
set_option linter.unusedSimpArgs false
namespace Go.Proofs.YteibbknpcgcjjaiGreat
open Go.RowKit Go.Deep Go.Joins Go.Maps
attribute [local go_sem ↓] Go.wp_at_zero Go.wp_at_succ

theorem drew_b (X : World) : Below X.heap.size X X.drew := (Below.refl _ _).drew
theorem me2_at (A : World) (b : Nat) (x y : Value) (h : b = A.heap.size) : VHas (A.alloc (.cells #[x, y] 44)) b 44 2 (me2 x y) := by subst h; exact me2_new A x y
theorem run_copy_ints (w : World) (c m b : Nat) (f h : Nat → Int) (hc : IHas w c m f) (hb : IHas w b m h) (ty : TypeId) :
    ∃ w', (Builtin.copy_ #[25, 25] ty #[.slice (some ⟨c, 0, none⟩) m m, .slice (some ⟨b, 0, none⟩) m m]).run Tryz.prog w = .ok (goInt m) w' ∧ IHas w' c m h ∧ w.grownBy w' (some c) := by
  have hsz : (Tryz.prog.info? 2).map (·.size) = some 1 := by kernel_rfl
  obtain ⟨cur, hh, hs, hcu⟩ := hc
  have hr := run_copy_row (P := Tryz.prog) w 25 25 ty 2 c 0 m m ⟨b, 0, none⟩ m m cur 2 (icells h m) Tryz.underlying25 hsz hh (by rw [icells_len]; simp) (fun j v hv => by
    by_cases hj : j < m
    · rw [icells_at hj] at hv
      simp at hv
      subst hv
      have : (⟨b, 0, none⟩ : Addr).add j = ⟨b, j, none⟩ := by unfold Addr.add; split <;> simp_all
      rw [this]
      exact hb.cell hj
    · rw [List.getElem?_eq_none (by rw [icells_len]; omega)] at hv
      cases hv) (by rw [icells_len]; omega) (fun v hv => by
    simp [icells] at hv
    obtain ⟨j, _, rfl⟩ := hv
    rfl)
  rw [icells_len] at hr
  refine ⟨_, hr, ?_, gr_setRow w c _⟩
  refine ⟨_, setRow_heap w c cur _ _ _ hh, ?_, fun j hj => ?_⟩
  · simp [icells]
  · simp only [List.take_zero, List.nil_append, List.getElem?_toArray]
    rw [List.getElem?_append_left (by rw [icells_len]; omega), icells_at hj]

/-- The new lists, their box and the result's. -/
structure HO (w : World) (m c d bx : Nat) (X : World) : Prop where
  bel : Below w.heap.size w X
  box : VHas X bx 44 2 (me2 (.slice (some ⟨c, 0, none⟩) m m) (.slice (some ⟨d, 0, none⟩) m m))
  res : VHas X w.heap.size 44 2 (me2 (.slice none 0 0) (.slice none 0 0))
  ic : IHas X c m (fun _ => 0)
  id : IHas X d m (fun _ => 0)
  ne : c ≠ d ∧ c ≠ bx ∧ d ≠ bx
  ge : w.heap.size < c ∧ w.heap.size < d ∧ w.heap.size < bx
theorem ho_0 (w : World) (m : Nat) : HO w m (w.heap.size + 1) (w.heap.size + 1 + 1) (w.heap.size + 1 + 1 + 1) (((((w.alloc (.cells #[.slice none 0 0, .slice none 0 0] 44)).alloc (.cells (madeCells #[.int .i64 0] m) 2)).alloc (.cells (madeCells #[.int .i64 0] m) 2)).alloc (.cells #[.slice (some ⟨w.heap.size + 1, 0, none⟩) m m, .slice (some ⟨w.heap.size + 1 + 1, 0, none⟩) m m] 44)).drew) := by
  refine ⟨(((((Below.refl _ w).alloc (Nat.le_refl _) _).alloc (by simp) _).alloc (by simp; omega) _).alloc (by simp; omega) _).drew, ?_, ?_, ?_, ?_, by omega, by omega⟩
  · repeat (first | (refine me2_at _ _ _ _ ?_; simp; done) | refine VHas.alloc ?_ _ | refine VHas.next ?_ (drew_b _))
  · repeat (first | (refine me2_at _ _ _ _ ?_; simp; done) | (refine me2_at _ _ _ _ ?_; rfl) | refine VHas.alloc ?_ _ | refine VHas.next ?_ (drew_b _))
  · repeat (first | (refine made_at _ _ _ ?_; simp; done) | refine IHas.al ?_ _ | refine IHas.nx ?_ (drew_b _))
  · repeat (first | (refine made_at _ _ _ ?_; simp; done) | refine IHas.al ?_ _ | refine IHas.nx ?_ (drew_b _))
theorem ho_1 (w : World) (m : Nat) : HO w m (w.heap.size + 1) (w.heap.size + 1 + 1 + 1) (w.heap.size + 1 + 1) (((((w.alloc (.cells #[.slice none 0 0, .slice none 0 0] 44)).alloc (.cells (madeCells #[.int .i64 0] m) 2)).alloc (.cells #[.slice (some ⟨w.heap.size + 1, 0, none⟩) m m, .slice (some ⟨w.heap.size + 1 + 1 + 1, 0, none⟩) m m] 44)).alloc (.cells (madeCells #[.int .i64 0] m) 2)).drew) := by
  refine ⟨(((((Below.refl _ w).alloc (Nat.le_refl _) _).alloc (by simp) _).alloc (by simp; omega) _).alloc (by simp; omega) _).drew, ?_, ?_, ?_, ?_, by omega, by omega⟩
  · repeat (first | (refine me2_at _ _ _ _ ?_; simp; done) | refine VHas.alloc ?_ _ | refine VHas.next ?_ (drew_b _))
  · repeat (first | (refine me2_at _ _ _ _ ?_; simp; done) | (refine me2_at _ _ _ _ ?_; rfl) | refine VHas.alloc ?_ _ | refine VHas.next ?_ (drew_b _))
  · repeat (first | (refine made_at _ _ _ ?_; simp; done) | refine IHas.al ?_ _ | refine IHas.nx ?_ (drew_b _))
  · repeat (first | (refine made_at _ _ _ ?_; simp; done) | refine IHas.al ?_ _ | refine IHas.nx ?_ (drew_b _))
theorem ho_2 (w : World) (m : Nat) : HO w m (w.heap.size + 1 + 1) (w.heap.size + 1) (w.heap.size + 1 + 1 + 1) (((((w.alloc (.cells #[.slice none 0 0, .slice none 0 0] 44)).alloc (.cells (madeCells #[.int .i64 0] m) 2)).alloc (.cells (madeCells #[.int .i64 0] m) 2)).alloc (.cells #[.slice (some ⟨w.heap.size + 1 + 1, 0, none⟩) m m, .slice (some ⟨w.heap.size + 1, 0, none⟩) m m] 44)).drew) := by
  refine ⟨(((((Below.refl _ w).alloc (Nat.le_refl _) _).alloc (by simp) _).alloc (by simp; omega) _).alloc (by simp; omega) _).drew, ?_, ?_, ?_, ?_, by omega, by omega⟩
  · repeat (first | (refine me2_at _ _ _ _ ?_; simp; done) | refine VHas.alloc ?_ _ | refine VHas.next ?_ (drew_b _))
  · repeat (first | (refine me2_at _ _ _ _ ?_; simp; done) | (refine me2_at _ _ _ _ ?_; rfl) | refine VHas.alloc ?_ _ | refine VHas.next ?_ (drew_b _))
  · repeat (first | (refine made_at _ _ _ ?_; simp; done) | refine IHas.al ?_ _ | refine IHas.nx ?_ (drew_b _))
  · repeat (first | (refine made_at _ _ _ ?_; simp; done) | refine IHas.al ?_ _ | refine IHas.nx ?_ (drew_b _))
theorem ho_3 (w : World) (m : Nat) : HO w m (w.heap.size + 1 + 1 + 1) (w.heap.size + 1) (w.heap.size + 1 + 1) (((((w.alloc (.cells #[.slice none 0 0, .slice none 0 0] 44)).alloc (.cells (madeCells #[.int .i64 0] m) 2)).alloc (.cells #[.slice (some ⟨w.heap.size + 1 + 1 + 1, 0, none⟩) m m, .slice (some ⟨w.heap.size + 1, 0, none⟩) m m] 44)).alloc (.cells (madeCells #[.int .i64 0] m) 2)).drew) := by
  refine ⟨(((((Below.refl _ w).alloc (Nat.le_refl _) _).alloc (by simp) _).alloc (by simp; omega) _).alloc (by simp; omega) _).drew, ?_, ?_, ?_, ?_, by omega, by omega⟩
  · repeat (first | (refine me2_at _ _ _ _ ?_; simp; done) | refine VHas.alloc ?_ _ | refine VHas.next ?_ (drew_b _))
  · repeat (first | (refine me2_at _ _ _ _ ?_; simp; done) | (refine me2_at _ _ _ _ ?_; rfl) | refine VHas.alloc ?_ _ | refine VHas.next ?_ (drew_b _))
  · repeat (first | (refine made_at _ _ _ ?_; simp; done) | refine IHas.al ?_ _ | refine IHas.nx ?_ (drew_b _))
  · repeat (first | (refine made_at _ _ _ ?_; simp; done) | refine IHas.al ?_ _ | refine IHas.nx ?_ (drew_b _))
theorem ho_4 (w : World) (m : Nat) : HO w m (w.heap.size + 1 + 1) (w.heap.size + 1 + 1 + 1) (w.heap.size + 1) (((((w.alloc (.cells #[.slice none 0 0, .slice none 0 0] 44)).alloc (.cells #[.slice (some ⟨w.heap.size + 1 + 1, 0, none⟩) m m, .slice (some ⟨w.heap.size + 1 + 1 + 1, 0, none⟩) m m] 44)).alloc (.cells (madeCells #[.int .i64 0] m) 2)).alloc (.cells (madeCells #[.int .i64 0] m) 2)).drew) := by
  refine ⟨(((((Below.refl _ w).alloc (Nat.le_refl _) _).alloc (by simp) _).alloc (by simp; omega) _).alloc (by simp; omega) _).drew, ?_, ?_, ?_, ?_, by omega, by omega⟩
  · repeat (first | (refine me2_at _ _ _ _ ?_; simp; done) | refine VHas.alloc ?_ _ | refine VHas.next ?_ (drew_b _))
  · repeat (first | (refine me2_at _ _ _ _ ?_; simp; done) | (refine me2_at _ _ _ _ ?_; rfl) | refine VHas.alloc ?_ _ | refine VHas.next ?_ (drew_b _))
  · repeat (first | (refine made_at _ _ _ ?_; simp; done) | refine IHas.al ?_ _ | refine IHas.nx ?_ (drew_b _))
  · repeat (first | (refine made_at _ _ _ ?_; simp; done) | refine IHas.al ?_ _ | refine IHas.nx ?_ (drew_b _))
theorem ho_5 (w : World) (m : Nat) : HO w m (w.heap.size + 1 + 1 + 1) (w.heap.size + 1 + 1) (w.heap.size + 1) (((((w.alloc (.cells #[.slice none 0 0, .slice none 0 0] 44)).alloc (.cells #[.slice (some ⟨w.heap.size + 1 + 1 + 1, 0, none⟩) m m, .slice (some ⟨w.heap.size + 1 + 1, 0, none⟩) m m] 44)).alloc (.cells (madeCells #[.int .i64 0] m) 2)).alloc (.cells (madeCells #[.int .i64 0] m) 2)).drew) := by
  refine ⟨(((((Below.refl _ w).alloc (Nat.le_refl _) _).alloc (by simp) _).alloc (by simp; omega) _).alloc (by simp; omega) _).drew, ?_, ?_, ?_, ?_, by omega, by omega⟩
  · repeat (first | (refine me2_at _ _ _ _ ?_; simp; done) | refine VHas.alloc ?_ _ | refine VHas.next ?_ (drew_b _))
  · repeat (first | (refine me2_at _ _ _ _ ?_; simp; done) | (refine me2_at _ _ _ _ ?_; rfl) | refine VHas.alloc ?_ _ | refine VHas.next ?_ (drew_b _))
  · repeat (first | (refine made_at _ _ _ ?_; simp; done) | refine IHas.al ?_ _ | refine IHas.nx ?_ (drew_b _))
  · repeat (first | (refine made_at _ _ _ ?_; simp; done) | refine IHas.al ?_ _ | refine IHas.nx ?_ (drew_b _))

set_option maxRecDepth 100000 in
set_option maxHeartbeats 4000000 in
theorem handOut_any (w0 : World) (k m : Nat) (P L H : Nat → Int) (eo : Option Addr) (ecap b g rcap bm bU bV : Nat) (U V : Nat → Int) (hm : m ≤ 1000) (w : World) (hR : Room w0 k P eo m ecap L H b g rcap bm bU bV U V w) :
    Calls Tryz.prog 118 #[.pointer (some ⟨b, 0, none⟩)] w fun e w' => ∃ c d, e = .returned (.agg #[.slice (some ⟨c, 0, none⟩) m m, .slice (some ⟨d, 0, none⟩) m m]) ∧ w.heap.size ≤ c ∧ w.heap.size ≤ d ∧ c ≠ d ∧ IHas w' c m U ∧ IHas w' d m V ∧ w.heap.size + 2 ≤ w'.heap.size ∧ Below w.heap.size w w' := by
  have hmk := make_ints m (by omega)
  have hbl : b < w.heap.size := (Array.getElem?_eq_some_iff.1 hR.box).1
  have hul := hR.up.lt
  have hvl := hR.dn.lt
  have c0 : w.cell? ⟨b, 0, none⟩ = some (.slice eo m ecap) := hR.cell rfl
  go_enter Tryz.func118, Tryz.ntmps118
  go_wp2_with fail
  go_region_held3 (fun X : World => X.cell? ⟨b, 0, none⟩ = some (.slice eo m ecap))
    (first | assumption | (refine keep_cell (B := w.heap.size) (W := w) ?_ (Nat.le_refl _) c0; repeat (first | exact Below.refl _ _ | refine Below.alloc ?_ (by simp <;> omega) _ | refine Below.setCell ?_ (by simp <;> omega) _ | refine Below.drew ?_)))
    (fail)
  · generalize hWX : World.drew _ = X
    have hX : HO w m (w.heap.size + 1) (w.heap.size + 1 + 1) (w.heap.size + 1 + 1 + 1) X := by rw [← hWX]; exact ho_0 w m
    clear hWX
    generalize w.heap.size + 1 + 1 + 1 = bx at hX ⊢
    generalize w.heap.size + 1 + 1 = d at hX ⊢
    generalize w.heap.size + 1 = c at hX ⊢
    clear hmk
    have hge := hX.ge
    have hne := hX.ne
    have bD := below_next hX.bel (Nat.le_refl _) (drew_b X)
    have bxD := hX.box.next (drew_b X)
    have rsD := hX.res.next (drew_b X)
    have idD := hX.id.nx (drew_b X)
    obtain ⟨Y, hrun1, iY, hgY⟩ := run_copy_ints X.drew c m bU _ U (hX.ic.nx (drew_b X)) (hR.up.below bD hul) 3
    have x0 : X.drew.cell? ⟨bx, 0, none⟩ = some (.slice (some ⟨c, 0, none⟩) m m) := bxD.cell (j := 0) (by omega)
    have x3 : X.drew.cell? ⟨b, 3, none⟩ = some (.slice (some ⟨bU, 0, none⟩) m m) := keep_cell bD (Nat.le_refl _) (hR.cell rfl)
    have y0 := cell_turn x0 hgY (by omega)
    have y3 := cell_turn x3 hgY (by omega)
    have bY : Below w.heap.size w Y := below_far (B := w.heap.size) bD hgY (fun x e => by cases e; omega) (Nat.le_refl _)
    have bxY := bxD.grown hgY (by simp; omega)
    have rsY := rsD.grown hgY (by simp; omega)
    have idY := idD.grown hgY (by simp; omega)
    clear hX bD bxD rsD idD hgY
    go_wp2_with fail
    go_region_held3 (fun X : World => X.cell? ⟨bx, 0, none⟩ = some (.slice (some ⟨c, 0, none⟩) m m) ∧ X.cell? ⟨b, 3, none⟩ = some (.slice (some ⟨bU, 0, none⟩) m m))
      (first | exact ⟨y0, y3⟩ | exact ⟨x0, x3⟩ | assumption)
      (fail)
    clear x0 x3 y0 y3 hrun1
    have bD := below_next bY (Nat.le_refl _) (drew_b Y)
    have bxD := bxY.next (drew_b Y)
    have rsD := rsY.next (drew_b Y)
    have icD := iY.nx (drew_b Y)
    obtain ⟨Z, hrun1, iZ, hgZ⟩ := run_copy_ints Y.drew d m bV _ V (idY.nx (drew_b Y)) (hR.dn.below bD hvl) 3
    have x0 : Y.drew.cell? ⟨bx, 1, none⟩ = some (.slice (some ⟨d, 0, none⟩) m m) := bxD.cell (j := 1) (by omega)
    have x3 : Y.drew.cell? ⟨b, 4, none⟩ = some (.slice (some ⟨bV, 0, none⟩) m m) := keep_cell bD (Nat.le_refl _) (hR.cell rfl)
    have y0 := cell_turn x0 hgZ (by omega)
    have y3 := cell_turn x3 hgZ (by omega)
    have bZ : Below w.heap.size w Z := below_far (B := w.heap.size) bD hgZ (fun x e => by cases e; omega) (Nat.le_refl _)
    have bxZ := bxD.grown hgZ (by simp; omega)
    have rsZ := rsD.grown hgZ (by simp; omega)
    have icZ := icD.grown hgZ (by simp; omega)
    clear bD bxD rsD icD hgZ bY bxY rsY iY idY
    go_wp2_with fail
    go_region_held3 (fun X : World => X.cell? ⟨bx, 1, none⟩ = some (.slice (some ⟨d, 0, none⟩) m m) ∧ X.cell? ⟨b, 4, none⟩ = some (.slice (some ⟨bV, 0, none⟩) m m))
      (first | exact ⟨y0, y3⟩ | exact ⟨x0, x3⟩ | assumption)
      (fail)
    clear x0 x3 y0 y3 hrun1
    have x0 : Z.cell? ⟨bx, 0, none⟩ = some (.slice (some ⟨c, 0, none⟩) m m) := bxZ.cell (j := 0) (by omega)
    have x1 : Z.cell? ⟨bx, 1, none⟩ = some (.slice (some ⟨d, 0, none⟩) m m) := bxZ.cell (j := 1) (by omega)
    have r0 : Z.cell? ⟨w.heap.size, 0, none⟩ = some (.slice none 0 0) := rsZ.cell (j := 0) (by omega)
    have r1 : Z.cell? ⟨w.heap.size, 1, none⟩ = some (.slice none 0 0) := rsZ.cell (j := 1) (by omega)
    have z0 := rsZ.frozen 0
    have z1 := rsZ.frozen 1
    have hlx := bxZ.lt
    go_wp2
    have hB4 := ret_below bZ (s := w.heap.size) (Nat.le_refl _) (.slice (some ⟨c, 0, none⟩) m m) (.slice (some ⟨d, 0, none⟩) m m)
    have d0 : ((Z.setCell ⟨w.heap.size, 0, none⟩ (.slice (some ⟨c, 0, none⟩) m m)).setCell ⟨w.heap.size, 1, none⟩ (.slice (some ⟨d, 0, none⟩) m m)).cell? ⟨w.heap.size, 0, none⟩ = some (.slice (some ⟨c, 0, none⟩) m m) := by simp [go_sem, r0, r1]
    have d1 : ((Z.setCell ⟨w.heap.size, 0, none⟩ (.slice (some ⟨c, 0, none⟩) m m)).setCell ⟨w.heap.size, 1, none⟩ (.slice (some ⟨d, 0, none⟩) m m)).cell? ⟨w.heap.size, 1, none⟩ = some (.slice (some ⟨d, 0, none⟩) m m) := by simp [go_sem, r0, r1]
    have hU4 := icZ.of_block (ret_block (W := Z) (s := w.heap.size) (b := c) (.slice (some ⟨c, 0, none⟩) m m) (.slice (some ⟨d, 0, none⟩) m m) (by omega))
    have hV4 := iZ.of_block (ret_block (W := Z) (s := w.heap.size) (b := d) (.slice (some ⟨c, 0, none⟩) m m) (.slice (some ⟨d, 0, none⟩) m m) (by omega))
    have hs4 : w.heap.size + 2 ≤ ((Z.setCell ⟨w.heap.size, 0, none⟩ (.slice (some ⟨c, 0, none⟩) m m)).setCell ⟨w.heap.size, 1, none⟩ (.slice (some ⟨d, 0, none⟩) m m)).heap.size := by simp [World.setCell]; omega
    generalize ((Z.setCell ⟨w.heap.size, 0, none⟩ (.slice (some ⟨c, 0, none⟩) m m)).setCell ⟨w.heap.size, 1, none⟩ (.slice (some ⟨d, 0, none⟩) m m)) = W4 at hB4 d0 d1 hU4 hV4 hs4 ⊢
    clear bZ bxZ rsZ icZ iZ x0 x1 r0 r1 z0 z1
    simp [bodyPost, results, Tryz.results118, go_sem, d0, d1]
    exact ⟨c, d, by simp, by omega, by omega, by omega, hU4, hV4, hs4, hB4⟩
  · generalize hWX : World.drew _ = X
    have hX : HO w m (w.heap.size + 1) (w.heap.size + 1 + 1 + 1) (w.heap.size + 1 + 1) X := by rw [← hWX]; exact ho_1 w m
    clear hWX
    generalize w.heap.size + 1 + 1 + 1 = d at hX ⊢
    generalize w.heap.size + 1 + 1 = bx at hX ⊢
    generalize w.heap.size + 1 = c at hX ⊢
    clear hmk
    have hge := hX.ge
    have hne := hX.ne
    have bD := below_next hX.bel (Nat.le_refl _) (drew_b X)
    have bxD := hX.box.next (drew_b X)
    have rsD := hX.res.next (drew_b X)
    have idD := hX.id.nx (drew_b X)
    obtain ⟨Y, hrun1, iY, hgY⟩ := run_copy_ints X.drew c m bU _ U (hX.ic.nx (drew_b X)) (hR.up.below bD hul) 3
    have x0 : X.drew.cell? ⟨bx, 0, none⟩ = some (.slice (some ⟨c, 0, none⟩) m m) := bxD.cell (j := 0) (by omega)
    have x3 : X.drew.cell? ⟨b, 3, none⟩ = some (.slice (some ⟨bU, 0, none⟩) m m) := keep_cell bD (Nat.le_refl _) (hR.cell rfl)
    have y0 := cell_turn x0 hgY (by omega)
    have y3 := cell_turn x3 hgY (by omega)
    have bY : Below w.heap.size w Y := below_far (B := w.heap.size) bD hgY (fun x e => by cases e; omega) (Nat.le_refl _)
    have bxY := bxD.grown hgY (by simp; omega)
    have rsY := rsD.grown hgY (by simp; omega)
    have idY := idD.grown hgY (by simp; omega)
    clear hX bD bxD rsD idD hgY
    go_wp2_with fail
    go_region_held3 (fun X : World => X.cell? ⟨bx, 0, none⟩ = some (.slice (some ⟨c, 0, none⟩) m m) ∧ X.cell? ⟨b, 3, none⟩ = some (.slice (some ⟨bU, 0, none⟩) m m))
      (first | exact ⟨y0, y3⟩ | exact ⟨x0, x3⟩ | assumption)
      (fail)
    clear x0 x3 y0 y3 hrun1
    have bD := below_next bY (Nat.le_refl _) (drew_b Y)
    have bxD := bxY.next (drew_b Y)
    have rsD := rsY.next (drew_b Y)
    have icD := iY.nx (drew_b Y)
    obtain ⟨Z, hrun1, iZ, hgZ⟩ := run_copy_ints Y.drew d m bV _ V (idY.nx (drew_b Y)) (hR.dn.below bD hvl) 3
    have x0 : Y.drew.cell? ⟨bx, 1, none⟩ = some (.slice (some ⟨d, 0, none⟩) m m) := bxD.cell (j := 1) (by omega)
    have x3 : Y.drew.cell? ⟨b, 4, none⟩ = some (.slice (some ⟨bV, 0, none⟩) m m) := keep_cell bD (Nat.le_refl _) (hR.cell rfl)
    have y0 := cell_turn x0 hgZ (by omega)
    have y3 := cell_turn x3 hgZ (by omega)
    have bZ : Below w.heap.size w Z := below_far (B := w.heap.size) bD hgZ (fun x e => by cases e; omega) (Nat.le_refl _)
    have bxZ := bxD.grown hgZ (by simp; omega)
    have rsZ := rsD.grown hgZ (by simp; omega)
    have icZ := icD.grown hgZ (by simp; omega)
    clear bD bxD rsD icD hgZ bY bxY rsY iY idY
    go_wp2_with fail
    go_region_held3 (fun X : World => X.cell? ⟨bx, 1, none⟩ = some (.slice (some ⟨d, 0, none⟩) m m) ∧ X.cell? ⟨b, 4, none⟩ = some (.slice (some ⟨bV, 0, none⟩) m m))
      (first | exact ⟨y0, y3⟩ | exact ⟨x0, x3⟩ | assumption)
      (fail)
    clear x0 x3 y0 y3 hrun1
    have x0 : Z.cell? ⟨bx, 0, none⟩ = some (.slice (some ⟨c, 0, none⟩) m m) := bxZ.cell (j := 0) (by omega)
    have x1 : Z.cell? ⟨bx, 1, none⟩ = some (.slice (some ⟨d, 0, none⟩) m m) := bxZ.cell (j := 1) (by omega)
    have r0 : Z.cell? ⟨w.heap.size, 0, none⟩ = some (.slice none 0 0) := rsZ.cell (j := 0) (by omega)
    have r1 : Z.cell? ⟨w.heap.size, 1, none⟩ = some (.slice none 0 0) := rsZ.cell (j := 1) (by omega)
    have z0 := rsZ.frozen 0
    have z1 := rsZ.frozen 1
    have hlx := bxZ.lt
    go_wp2
    have hB4 := ret_below bZ (s := w.heap.size) (Nat.le_refl _) (.slice (some ⟨c, 0, none⟩) m m) (.slice (some ⟨d, 0, none⟩) m m)
    have d0 : ((Z.setCell ⟨w.heap.size, 0, none⟩ (.slice (some ⟨c, 0, none⟩) m m)).setCell ⟨w.heap.size, 1, none⟩ (.slice (some ⟨d, 0, none⟩) m m)).cell? ⟨w.heap.size, 0, none⟩ = some (.slice (some ⟨c, 0, none⟩) m m) := by simp [go_sem, r0, r1]
    have d1 : ((Z.setCell ⟨w.heap.size, 0, none⟩ (.slice (some ⟨c, 0, none⟩) m m)).setCell ⟨w.heap.size, 1, none⟩ (.slice (some ⟨d, 0, none⟩) m m)).cell? ⟨w.heap.size, 1, none⟩ = some (.slice (some ⟨d, 0, none⟩) m m) := by simp [go_sem, r0, r1]
    have hU4 := icZ.of_block (ret_block (W := Z) (s := w.heap.size) (b := c) (.slice (some ⟨c, 0, none⟩) m m) (.slice (some ⟨d, 0, none⟩) m m) (by omega))
    have hV4 := iZ.of_block (ret_block (W := Z) (s := w.heap.size) (b := d) (.slice (some ⟨c, 0, none⟩) m m) (.slice (some ⟨d, 0, none⟩) m m) (by omega))
    have hs4 : w.heap.size + 2 ≤ ((Z.setCell ⟨w.heap.size, 0, none⟩ (.slice (some ⟨c, 0, none⟩) m m)).setCell ⟨w.heap.size, 1, none⟩ (.slice (some ⟨d, 0, none⟩) m m)).heap.size := by simp [World.setCell]; omega
    generalize ((Z.setCell ⟨w.heap.size, 0, none⟩ (.slice (some ⟨c, 0, none⟩) m m)).setCell ⟨w.heap.size, 1, none⟩ (.slice (some ⟨d, 0, none⟩) m m)) = W4 at hB4 d0 d1 hU4 hV4 hs4 ⊢
    clear bZ bxZ rsZ icZ iZ x0 x1 r0 r1 z0 z1
    simp [bodyPost, results, Tryz.results118, go_sem, d0, d1]
    exact ⟨c, d, by simp, by omega, by omega, by omega, hU4, hV4, hs4, hB4⟩
  · generalize hWX : World.drew _ = X
    have hX : HO w m (w.heap.size + 1 + 1) (w.heap.size + 1) (w.heap.size + 1 + 1 + 1) X := by rw [← hWX]; exact ho_2 w m
    clear hWX
    generalize w.heap.size + 1 + 1 + 1 = bx at hX ⊢
    generalize w.heap.size + 1 + 1 = c at hX ⊢
    generalize w.heap.size + 1 = d at hX ⊢
    clear hmk
    have hge := hX.ge
    have hne := hX.ne
    have bD := below_next hX.bel (Nat.le_refl _) (drew_b X)
    have bxD := hX.box.next (drew_b X)
    have rsD := hX.res.next (drew_b X)
    have idD := hX.id.nx (drew_b X)
    obtain ⟨Y, hrun1, iY, hgY⟩ := run_copy_ints X.drew c m bU _ U (hX.ic.nx (drew_b X)) (hR.up.below bD hul) 3
    have x0 : X.drew.cell? ⟨bx, 0, none⟩ = some (.slice (some ⟨c, 0, none⟩) m m) := bxD.cell (j := 0) (by omega)
    have x3 : X.drew.cell? ⟨b, 3, none⟩ = some (.slice (some ⟨bU, 0, none⟩) m m) := keep_cell bD (Nat.le_refl _) (hR.cell rfl)
    have y0 := cell_turn x0 hgY (by omega)
    have y3 := cell_turn x3 hgY (by omega)
    have bY : Below w.heap.size w Y := below_far (B := w.heap.size) bD hgY (fun x e => by cases e; omega) (Nat.le_refl _)
    have bxY := bxD.grown hgY (by simp; omega)
    have rsY := rsD.grown hgY (by simp; omega)
    have idY := idD.grown hgY (by simp; omega)
    clear hX bD bxD rsD idD hgY
    go_wp2_with fail
    go_region_held3 (fun X : World => X.cell? ⟨bx, 0, none⟩ = some (.slice (some ⟨c, 0, none⟩) m m) ∧ X.cell? ⟨b, 3, none⟩ = some (.slice (some ⟨bU, 0, none⟩) m m))
      (first | exact ⟨y0, y3⟩ | exact ⟨x0, x3⟩ | assumption)
      (fail)
    clear x0 x3 y0 y3 hrun1
    have bD := below_next bY (Nat.le_refl _) (drew_b Y)
    have bxD := bxY.next (drew_b Y)
    have rsD := rsY.next (drew_b Y)
    have icD := iY.nx (drew_b Y)
    obtain ⟨Z, hrun1, iZ, hgZ⟩ := run_copy_ints Y.drew d m bV _ V (idY.nx (drew_b Y)) (hR.dn.below bD hvl) 3
    have x0 : Y.drew.cell? ⟨bx, 1, none⟩ = some (.slice (some ⟨d, 0, none⟩) m m) := bxD.cell (j := 1) (by omega)
    have x3 : Y.drew.cell? ⟨b, 4, none⟩ = some (.slice (some ⟨bV, 0, none⟩) m m) := keep_cell bD (Nat.le_refl _) (hR.cell rfl)
    have y0 := cell_turn x0 hgZ (by omega)
    have y3 := cell_turn x3 hgZ (by omega)
    have bZ : Below w.heap.size w Z := below_far (B := w.heap.size) bD hgZ (fun x e => by cases e; omega) (Nat.le_refl _)
    have bxZ := bxD.grown hgZ (by simp; omega)
    have rsZ := rsD.grown hgZ (by simp; omega)
    have icZ := icD.grown hgZ (by simp; omega)
    clear bD bxD rsD icD hgZ bY bxY rsY iY idY
    go_wp2_with fail
    go_region_held3 (fun X : World => X.cell? ⟨bx, 1, none⟩ = some (.slice (some ⟨d, 0, none⟩) m m) ∧ X.cell? ⟨b, 4, none⟩ = some (.slice (some ⟨bV, 0, none⟩) m m))
      (first | exact ⟨y0, y3⟩ | exact ⟨x0, x3⟩ | assumption)
      (fail)
    clear x0 x3 y0 y3 hrun1
    have x0 : Z.cell? ⟨bx, 0, none⟩ = some (.slice (some ⟨c, 0, none⟩) m m) := bxZ.cell (j := 0) (by omega)
    have x1 : Z.cell? ⟨bx, 1, none⟩ = some (.slice (some ⟨d, 0, none⟩) m m) := bxZ.cell (j := 1) (by omega)
    have r0 : Z.cell? ⟨w.heap.size, 0, none⟩ = some (.slice none 0 0) := rsZ.cell (j := 0) (by omega)
    have r1 : Z.cell? ⟨w.heap.size, 1, none⟩ = some (.slice none 0 0) := rsZ.cell (j := 1) (by omega)
    have z0 := rsZ.frozen 0
    have z1 := rsZ.frozen 1
    have hlx := bxZ.lt
    go_wp2
    have hB4 := ret_below bZ (s := w.heap.size) (Nat.le_refl _) (.slice (some ⟨c, 0, none⟩) m m) (.slice (some ⟨d, 0, none⟩) m m)
    have d0 : ((Z.setCell ⟨w.heap.size, 0, none⟩ (.slice (some ⟨c, 0, none⟩) m m)).setCell ⟨w.heap.size, 1, none⟩ (.slice (some ⟨d, 0, none⟩) m m)).cell? ⟨w.heap.size, 0, none⟩ = some (.slice (some ⟨c, 0, none⟩) m m) := by simp [go_sem, r0, r1]
    have d1 : ((Z.setCell ⟨w.heap.size, 0, none⟩ (.slice (some ⟨c, 0, none⟩) m m)).setCell ⟨w.heap.size, 1, none⟩ (.slice (some ⟨d, 0, none⟩) m m)).cell? ⟨w.heap.size, 1, none⟩ = some (.slice (some ⟨d, 0, none⟩) m m) := by simp [go_sem, r0, r1]
    have hU4 := icZ.of_block (ret_block (W := Z) (s := w.heap.size) (b := c) (.slice (some ⟨c, 0, none⟩) m m) (.slice (some ⟨d, 0, none⟩) m m) (by omega))
    have hV4 := iZ.of_block (ret_block (W := Z) (s := w.heap.size) (b := d) (.slice (some ⟨c, 0, none⟩) m m) (.slice (some ⟨d, 0, none⟩) m m) (by omega))
    have hs4 : w.heap.size + 2 ≤ ((Z.setCell ⟨w.heap.size, 0, none⟩ (.slice (some ⟨c, 0, none⟩) m m)).setCell ⟨w.heap.size, 1, none⟩ (.slice (some ⟨d, 0, none⟩) m m)).heap.size := by simp [World.setCell]; omega
    generalize ((Z.setCell ⟨w.heap.size, 0, none⟩ (.slice (some ⟨c, 0, none⟩) m m)).setCell ⟨w.heap.size, 1, none⟩ (.slice (some ⟨d, 0, none⟩) m m)) = W4 at hB4 d0 d1 hU4 hV4 hs4 ⊢
    clear bZ bxZ rsZ icZ iZ x0 x1 r0 r1 z0 z1
    simp [bodyPost, results, Tryz.results118, go_sem, d0, d1]
    exact ⟨c, d, by simp, by omega, by omega, by omega, hU4, hV4, hs4, hB4⟩
  · generalize hWX : World.drew _ = X
    have hX : HO w m (w.heap.size + 1 + 1 + 1) (w.heap.size + 1) (w.heap.size + 1 + 1) X := by rw [← hWX]; exact ho_3 w m
    clear hWX
    generalize w.heap.size + 1 + 1 + 1 = c at hX ⊢
    generalize w.heap.size + 1 + 1 = bx at hX ⊢
    generalize w.heap.size + 1 = d at hX ⊢
    clear hmk
    have hge := hX.ge
    have hne := hX.ne
    have bD := below_next hX.bel (Nat.le_refl _) (drew_b X)
    have bxD := hX.box.next (drew_b X)
    have rsD := hX.res.next (drew_b X)
    have idD := hX.id.nx (drew_b X)
    obtain ⟨Y, hrun1, iY, hgY⟩ := run_copy_ints X.drew c m bU _ U (hX.ic.nx (drew_b X)) (hR.up.below bD hul) 3
    have x0 : X.drew.cell? ⟨bx, 0, none⟩ = some (.slice (some ⟨c, 0, none⟩) m m) := bxD.cell (j := 0) (by omega)
    have x3 : X.drew.cell? ⟨b, 3, none⟩ = some (.slice (some ⟨bU, 0, none⟩) m m) := keep_cell bD (Nat.le_refl _) (hR.cell rfl)
    have y0 := cell_turn x0 hgY (by omega)
    have y3 := cell_turn x3 hgY (by omega)
    have bY : Below w.heap.size w Y := below_far (B := w.heap.size) bD hgY (fun x e => by cases e; omega) (Nat.le_refl _)
    have bxY := bxD.grown hgY (by simp; omega)
    have rsY := rsD.grown hgY (by simp; omega)
    have idY := idD.grown hgY (by simp; omega)
    clear hX bD bxD rsD idD hgY
    go_wp2_with fail
    go_region_held3 (fun X : World => X.cell? ⟨bx, 0, none⟩ = some (.slice (some ⟨c, 0, none⟩) m m) ∧ X.cell? ⟨b, 3, none⟩ = some (.slice (some ⟨bU, 0, none⟩) m m))
      (first | exact ⟨y0, y3⟩ | exact ⟨x0, x3⟩ | assumption)
      (fail)
    clear x0 x3 y0 y3 hrun1
    have bD := below_next bY (Nat.le_refl _) (drew_b Y)
    have bxD := bxY.next (drew_b Y)
    have rsD := rsY.next (drew_b Y)
    have icD := iY.nx (drew_b Y)
    obtain ⟨Z, hrun1, iZ, hgZ⟩ := run_copy_ints Y.drew d m bV _ V (idY.nx (drew_b Y)) (hR.dn.below bD hvl) 3
    have x0 : Y.drew.cell? ⟨bx, 1, none⟩ = some (.slice (some ⟨d, 0, none⟩) m m) := bxD.cell (j := 1) (by omega)
    have x3 : Y.drew.cell? ⟨b, 4, none⟩ = some (.slice (some ⟨bV, 0, none⟩) m m) := keep_cell bD (Nat.le_refl _) (hR.cell rfl)
    have y0 := cell_turn x0 hgZ (by omega)
    have y3 := cell_turn x3 hgZ (by omega)
    have bZ : Below w.heap.size w Z := below_far (B := w.heap.size) bD hgZ (fun x e => by cases e; omega) (Nat.le_refl _)
    have bxZ := bxD.grown hgZ (by simp; omega)
    have rsZ := rsD.grown hgZ (by simp; omega)
    have icZ := icD.grown hgZ (by simp; omega)
    clear bD bxD rsD icD hgZ bY bxY rsY iY idY
    go_wp2_with fail
    go_region_held3 (fun X : World => X.cell? ⟨bx, 1, none⟩ = some (.slice (some ⟨d, 0, none⟩) m m) ∧ X.cell? ⟨b, 4, none⟩ = some (.slice (some ⟨bV, 0, none⟩) m m))
      (first | exact ⟨y0, y3⟩ | exact ⟨x0, x3⟩ | assumption)
      (fail)
    clear x0 x3 y0 y3 hrun1
    have x0 : Z.cell? ⟨bx, 0, none⟩ = some (.slice (some ⟨c, 0, none⟩) m m) := bxZ.cell (j := 0) (by omega)
    have x1 : Z.cell? ⟨bx, 1, none⟩ = some (.slice (some ⟨d, 0, none⟩) m m) := bxZ.cell (j := 1) (by omega)
    have r0 : Z.cell? ⟨w.heap.size, 0, none⟩ = some (.slice none 0 0) := rsZ.cell (j := 0) (by omega)
    have r1 : Z.cell? ⟨w.heap.size, 1, none⟩ = some (.slice none 0 0) := rsZ.cell (j := 1) (by omega)
    have z0 := rsZ.frozen 0
    have z1 := rsZ.frozen 1
    have hlx := bxZ.lt
    go_wp2
    have hB4 := ret_below bZ (s := w.heap.size) (Nat.le_refl _) (.slice (some ⟨c, 0, none⟩) m m) (.slice (some ⟨d, 0, none⟩) m m)
    have d0 : ((Z.setCell ⟨w.heap.size, 0, none⟩ (.slice (some ⟨c, 0, none⟩) m m)).setCell ⟨w.heap.size, 1, none⟩ (.slice (some ⟨d, 0, none⟩) m m)).cell? ⟨w.heap.size, 0, none⟩ = some (.slice (some ⟨c, 0, none⟩) m m) := by simp [go_sem, r0, r1]
    have d1 : ((Z.setCell ⟨w.heap.size, 0, none⟩ (.slice (some ⟨c, 0, none⟩) m m)).setCell ⟨w.heap.size, 1, none⟩ (.slice (some ⟨d, 0, none⟩) m m)).cell? ⟨w.heap.size, 1, none⟩ = some (.slice (some ⟨d, 0, none⟩) m m) := by simp [go_sem, r0, r1]
    have hU4 := icZ.of_block (ret_block (W := Z) (s := w.heap.size) (b := c) (.slice (some ⟨c, 0, none⟩) m m) (.slice (some ⟨d, 0, none⟩) m m) (by omega))
    have hV4 := iZ.of_block (ret_block (W := Z) (s := w.heap.size) (b := d) (.slice (some ⟨c, 0, none⟩) m m) (.slice (some ⟨d, 0, none⟩) m m) (by omega))
    have hs4 : w.heap.size + 2 ≤ ((Z.setCell ⟨w.heap.size, 0, none⟩ (.slice (some ⟨c, 0, none⟩) m m)).setCell ⟨w.heap.size, 1, none⟩ (.slice (some ⟨d, 0, none⟩) m m)).heap.size := by simp [World.setCell]; omega
    generalize ((Z.setCell ⟨w.heap.size, 0, none⟩ (.slice (some ⟨c, 0, none⟩) m m)).setCell ⟨w.heap.size, 1, none⟩ (.slice (some ⟨d, 0, none⟩) m m)) = W4 at hB4 d0 d1 hU4 hV4 hs4 ⊢
    clear bZ bxZ rsZ icZ iZ x0 x1 r0 r1 z0 z1
    simp [bodyPost, results, Tryz.results118, go_sem, d0, d1]
    exact ⟨c, d, by simp, by omega, by omega, by omega, hU4, hV4, hs4, hB4⟩
  · generalize hWX : World.drew _ = X
    have hX : HO w m (w.heap.size + 1 + 1) (w.heap.size + 1 + 1 + 1) (w.heap.size + 1) X := by rw [← hWX]; exact ho_4 w m
    clear hWX
    generalize w.heap.size + 1 + 1 + 1 = d at hX ⊢
    generalize w.heap.size + 1 + 1 = c at hX ⊢
    generalize w.heap.size + 1 = bx at hX ⊢
    clear hmk
    have hge := hX.ge
    have hne := hX.ne
    have bD := below_next hX.bel (Nat.le_refl _) (drew_b X)
    have bxD := hX.box.next (drew_b X)
    have rsD := hX.res.next (drew_b X)
    have idD := hX.id.nx (drew_b X)
    obtain ⟨Y, hrun1, iY, hgY⟩ := run_copy_ints X.drew c m bU _ U (hX.ic.nx (drew_b X)) (hR.up.below bD hul) 3
    have x0 : X.drew.cell? ⟨bx, 0, none⟩ = some (.slice (some ⟨c, 0, none⟩) m m) := bxD.cell (j := 0) (by omega)
    have x3 : X.drew.cell? ⟨b, 3, none⟩ = some (.slice (some ⟨bU, 0, none⟩) m m) := keep_cell bD (Nat.le_refl _) (hR.cell rfl)
    have y0 := cell_turn x0 hgY (by omega)
    have y3 := cell_turn x3 hgY (by omega)
    have bY : Below w.heap.size w Y := below_far (B := w.heap.size) bD hgY (fun x e => by cases e; omega) (Nat.le_refl _)
    have bxY := bxD.grown hgY (by simp; omega)
    have rsY := rsD.grown hgY (by simp; omega)
    have idY := idD.grown hgY (by simp; omega)
    clear hX bD bxD rsD idD hgY
    go_wp2_with fail
    go_region_held3 (fun X : World => X.cell? ⟨bx, 0, none⟩ = some (.slice (some ⟨c, 0, none⟩) m m) ∧ X.cell? ⟨b, 3, none⟩ = some (.slice (some ⟨bU, 0, none⟩) m m))
      (first | exact ⟨y0, y3⟩ | exact ⟨x0, x3⟩ | assumption)
      (fail)
    clear x0 x3 y0 y3 hrun1
    have bD := below_next bY (Nat.le_refl _) (drew_b Y)
    have bxD := bxY.next (drew_b Y)
    have rsD := rsY.next (drew_b Y)
    have icD := iY.nx (drew_b Y)
    obtain ⟨Z, hrun1, iZ, hgZ⟩ := run_copy_ints Y.drew d m bV _ V (idY.nx (drew_b Y)) (hR.dn.below bD hvl) 3
    have x0 : Y.drew.cell? ⟨bx, 1, none⟩ = some (.slice (some ⟨d, 0, none⟩) m m) := bxD.cell (j := 1) (by omega)
    have x3 : Y.drew.cell? ⟨b, 4, none⟩ = some (.slice (some ⟨bV, 0, none⟩) m m) := keep_cell bD (Nat.le_refl _) (hR.cell rfl)
    have y0 := cell_turn x0 hgZ (by omega)
    have y3 := cell_turn x3 hgZ (by omega)
    have bZ : Below w.heap.size w Z := below_far (B := w.heap.size) bD hgZ (fun x e => by cases e; omega) (Nat.le_refl _)
    have bxZ := bxD.grown hgZ (by simp; omega)
    have rsZ := rsD.grown hgZ (by simp; omega)
    have icZ := icD.grown hgZ (by simp; omega)
    clear bD bxD rsD icD hgZ bY bxY rsY iY idY
    go_wp2_with fail
    go_region_held3 (fun X : World => X.cell? ⟨bx, 1, none⟩ = some (.slice (some ⟨d, 0, none⟩) m m) ∧ X.cell? ⟨b, 4, none⟩ = some (.slice (some ⟨bV, 0, none⟩) m m))
      (first | exact ⟨y0, y3⟩ | exact ⟨x0, x3⟩ | assumption)
      (fail)
    clear x0 x3 y0 y3 hrun1
    have x0 : Z.cell? ⟨bx, 0, none⟩ = some (.slice (some ⟨c, 0, none⟩) m m) := bxZ.cell (j := 0) (by omega)
    have x1 : Z.cell? ⟨bx, 1, none⟩ = some (.slice (some ⟨d, 0, none⟩) m m) := bxZ.cell (j := 1) (by omega)
    have r0 : Z.cell? ⟨w.heap.size, 0, none⟩ = some (.slice none 0 0) := rsZ.cell (j := 0) (by omega)
    have r1 : Z.cell? ⟨w.heap.size, 1, none⟩ = some (.slice none 0 0) := rsZ.cell (j := 1) (by omega)
    have z0 := rsZ.frozen 0
    have z1 := rsZ.frozen 1
    have hlx := bxZ.lt
    go_wp2
    have hB4 := ret_below bZ (s := w.heap.size) (Nat.le_refl _) (.slice (some ⟨c, 0, none⟩) m m) (.slice (some ⟨d, 0, none⟩) m m)
    have d0 : ((Z.setCell ⟨w.heap.size, 0, none⟩ (.slice (some ⟨c, 0, none⟩) m m)).setCell ⟨w.heap.size, 1, none⟩ (.slice (some ⟨d, 0, none⟩) m m)).cell? ⟨w.heap.size, 0, none⟩ = some (.slice (some ⟨c, 0, none⟩) m m) := by simp [go_sem, r0, r1]
    have d1 : ((Z.setCell ⟨w.heap.size, 0, none⟩ (.slice (some ⟨c, 0, none⟩) m m)).setCell ⟨w.heap.size, 1, none⟩ (.slice (some ⟨d, 0, none⟩) m m)).cell? ⟨w.heap.size, 1, none⟩ = some (.slice (some ⟨d, 0, none⟩) m m) := by simp [go_sem, r0, r1]
    have hU4 := icZ.of_block (ret_block (W := Z) (s := w.heap.size) (b := c) (.slice (some ⟨c, 0, none⟩) m m) (.slice (some ⟨d, 0, none⟩) m m) (by omega))
    have hV4 := iZ.of_block (ret_block (W := Z) (s := w.heap.size) (b := d) (.slice (some ⟨c, 0, none⟩) m m) (.slice (some ⟨d, 0, none⟩) m m) (by omega))
    have hs4 : w.heap.size + 2 ≤ ((Z.setCell ⟨w.heap.size, 0, none⟩ (.slice (some ⟨c, 0, none⟩) m m)).setCell ⟨w.heap.size, 1, none⟩ (.slice (some ⟨d, 0, none⟩) m m)).heap.size := by simp [World.setCell]; omega
    generalize ((Z.setCell ⟨w.heap.size, 0, none⟩ (.slice (some ⟨c, 0, none⟩) m m)).setCell ⟨w.heap.size, 1, none⟩ (.slice (some ⟨d, 0, none⟩) m m)) = W4 at hB4 d0 d1 hU4 hV4 hs4 ⊢
    clear bZ bxZ rsZ icZ iZ x0 x1 r0 r1 z0 z1
    simp [bodyPost, results, Tryz.results118, go_sem, d0, d1]
    exact ⟨c, d, by simp, by omega, by omega, by omega, hU4, hV4, hs4, hB4⟩
  · generalize hWX : World.drew _ = X
    have hX : HO w m (w.heap.size + 1 + 1 + 1) (w.heap.size + 1 + 1) (w.heap.size + 1) X := by rw [← hWX]; exact ho_5 w m
    clear hWX
    generalize w.heap.size + 1 + 1 + 1 = c at hX ⊢
    generalize w.heap.size + 1 + 1 = d at hX ⊢
    generalize w.heap.size + 1 = bx at hX ⊢
    clear hmk
    have hge := hX.ge
    have hne := hX.ne
    have bD := below_next hX.bel (Nat.le_refl _) (drew_b X)
    have bxD := hX.box.next (drew_b X)
    have rsD := hX.res.next (drew_b X)
    have idD := hX.id.nx (drew_b X)
    obtain ⟨Y, hrun1, iY, hgY⟩ := run_copy_ints X.drew c m bU _ U (hX.ic.nx (drew_b X)) (hR.up.below bD hul) 3
    have x0 : X.drew.cell? ⟨bx, 0, none⟩ = some (.slice (some ⟨c, 0, none⟩) m m) := bxD.cell (j := 0) (by omega)
    have x3 : X.drew.cell? ⟨b, 3, none⟩ = some (.slice (some ⟨bU, 0, none⟩) m m) := keep_cell bD (Nat.le_refl _) (hR.cell rfl)
    have y0 := cell_turn x0 hgY (by omega)
    have y3 := cell_turn x3 hgY (by omega)
    have bY : Below w.heap.size w Y := below_far (B := w.heap.size) bD hgY (fun x e => by cases e; omega) (Nat.le_refl _)
    have bxY := bxD.grown hgY (by simp; omega)
    have rsY := rsD.grown hgY (by simp; omega)
    have idY := idD.grown hgY (by simp; omega)
    clear hX bD bxD rsD idD hgY
    go_wp2_with fail
    go_region_held3 (fun X : World => X.cell? ⟨bx, 0, none⟩ = some (.slice (some ⟨c, 0, none⟩) m m) ∧ X.cell? ⟨b, 3, none⟩ = some (.slice (some ⟨bU, 0, none⟩) m m))
      (first | exact ⟨y0, y3⟩ | exact ⟨x0, x3⟩ | assumption)
      (fail)
    clear x0 x3 y0 y3 hrun1
    have bD := below_next bY (Nat.le_refl _) (drew_b Y)
    have bxD := bxY.next (drew_b Y)
    have rsD := rsY.next (drew_b Y)
    have icD := iY.nx (drew_b Y)
    obtain ⟨Z, hrun1, iZ, hgZ⟩ := run_copy_ints Y.drew d m bV _ V (idY.nx (drew_b Y)) (hR.dn.below bD hvl) 3
    have x0 : Y.drew.cell? ⟨bx, 1, none⟩ = some (.slice (some ⟨d, 0, none⟩) m m) := bxD.cell (j := 1) (by omega)
    have x3 : Y.drew.cell? ⟨b, 4, none⟩ = some (.slice (some ⟨bV, 0, none⟩) m m) := keep_cell bD (Nat.le_refl _) (hR.cell rfl)
    have y0 := cell_turn x0 hgZ (by omega)
    have y3 := cell_turn x3 hgZ (by omega)
    have bZ : Below w.heap.size w Z := below_far (B := w.heap.size) bD hgZ (fun x e => by cases e; omega) (Nat.le_refl _)
    have bxZ := bxD.grown hgZ (by simp; omega)
    have rsZ := rsD.grown hgZ (by simp; omega)
    have icZ := icD.grown hgZ (by simp; omega)
    clear bD bxD rsD icD hgZ bY bxY rsY iY idY
    go_wp2_with fail
    go_region_held3 (fun X : World => X.cell? ⟨bx, 1, none⟩ = some (.slice (some ⟨d, 0, none⟩) m m) ∧ X.cell? ⟨b, 4, none⟩ = some (.slice (some ⟨bV, 0, none⟩) m m))
      (first | exact ⟨y0, y3⟩ | exact ⟨x0, x3⟩ | assumption)
      (fail)
    clear x0 x3 y0 y3 hrun1
    have x0 : Z.cell? ⟨bx, 0, none⟩ = some (.slice (some ⟨c, 0, none⟩) m m) := bxZ.cell (j := 0) (by omega)
    have x1 : Z.cell? ⟨bx, 1, none⟩ = some (.slice (some ⟨d, 0, none⟩) m m) := bxZ.cell (j := 1) (by omega)
    have r0 : Z.cell? ⟨w.heap.size, 0, none⟩ = some (.slice none 0 0) := rsZ.cell (j := 0) (by omega)
    have r1 : Z.cell? ⟨w.heap.size, 1, none⟩ = some (.slice none 0 0) := rsZ.cell (j := 1) (by omega)
    have z0 := rsZ.frozen 0
    have z1 := rsZ.frozen 1
    have hlx := bxZ.lt
    go_wp2
    have hB4 := ret_below bZ (s := w.heap.size) (Nat.le_refl _) (.slice (some ⟨c, 0, none⟩) m m) (.slice (some ⟨d, 0, none⟩) m m)
    have d0 : ((Z.setCell ⟨w.heap.size, 0, none⟩ (.slice (some ⟨c, 0, none⟩) m m)).setCell ⟨w.heap.size, 1, none⟩ (.slice (some ⟨d, 0, none⟩) m m)).cell? ⟨w.heap.size, 0, none⟩ = some (.slice (some ⟨c, 0, none⟩) m m) := by simp [go_sem, r0, r1]
    have d1 : ((Z.setCell ⟨w.heap.size, 0, none⟩ (.slice (some ⟨c, 0, none⟩) m m)).setCell ⟨w.heap.size, 1, none⟩ (.slice (some ⟨d, 0, none⟩) m m)).cell? ⟨w.heap.size, 1, none⟩ = some (.slice (some ⟨d, 0, none⟩) m m) := by simp [go_sem, r0, r1]
    have hU4 := icZ.of_block (ret_block (W := Z) (s := w.heap.size) (b := c) (.slice (some ⟨c, 0, none⟩) m m) (.slice (some ⟨d, 0, none⟩) m m) (by omega))
    have hV4 := iZ.of_block (ret_block (W := Z) (s := w.heap.size) (b := d) (.slice (some ⟨c, 0, none⟩) m m) (.slice (some ⟨d, 0, none⟩) m m) (by omega))
    have hs4 : w.heap.size + 2 ≤ ((Z.setCell ⟨w.heap.size, 0, none⟩ (.slice (some ⟨c, 0, none⟩) m m)).setCell ⟨w.heap.size, 1, none⟩ (.slice (some ⟨d, 0, none⟩) m m)).heap.size := by simp [World.setCell]; omega
    generalize ((Z.setCell ⟨w.heap.size, 0, none⟩ (.slice (some ⟨c, 0, none⟩) m m)).setCell ⟨w.heap.size, 1, none⟩ (.slice (some ⟨d, 0, none⟩) m m)) = W4 at hB4 d0 d1 hU4 hV4 hs4 ⊢
    clear bZ bxZ rsZ icZ iZ x0 x1 r0 r1 z0 z1
    simp [bodyPost, results, Tryz.results118, go_sem, d0, d1]
    exact ⟨c, d, by simp, by omega, by omega, by omega, hU4, hV4, hs4, hB4⟩

end Go.Proofs.YteibbknpcgcjjaiGreat

/-
  WeightOf: the document's and the program's, each held against one plain function of the arcs.
-/
set_option linter.unusedVariables false
set_option linter.unusedSimpArgs false
namespace Go.Proofs.YteibbknpcgcjjaiGreat
open Go.RowKit Go.Maps

def wOf (p : Int) (n : Nat) (F T G : Nat → Int) (a b : Int) : Int := if graphB p n F T G then lastW F T G a b n else 1000000000000
theorem wf_small {p : Int} {F T G : Nat → Int} {n : Nat} (hp : inB p 1 24 = true) (h : arcsB p F T G n = true) : WfTo F T n := fun k hk => by
  have := (arcsB_each n h k hk).1
  simp [arcB, inB] at this hp
  exact ⟨WalkArith.wf_i64 (by omega), WalkArith.wf_i64 (by omega)⟩

end Go.Proofs.YteibbknpcgcjjaiGreat

/-
  A map from ranks to steps, told by which step each rank has.
-/
set_option linter.unusedVariables false
set_option linter.unusedSimpArgs false
namespace Go.Proofs.YteibbknpcgcjjaiGreat
open Go.ChangeShapes Go.WideShapes Go.ChangeAt Go.RowKit Go.Maps

theorem Tryz.keyLawI : Keyed Tryz.prog 2 := int_keyed Tryz.underlying2
theorem Tryz.zeroStep (w : World) : (zeroValue 96).run Tryz.prog w = .ok (.agg #[.int .i64 0, .bool false]) w := by kernel_rfl
/-- How a step reads: by one number. -/
def stC (i : Int) (u : Bool) : Int := 2 * i + (if u = true then 1 else 0)
def stR : Value → Option (DataW Unit × List MemPlace)
  | .agg a => match a.toList with
    | [.int .i64 i, .bool u] => some (.lit (.int .i64 (stC i u)), [])
    | _ => none
  | _ => none
theorem stR_agg (i : Int) (u : Bool) : stR (.agg #[.int .i64 i, .bool u]) = some (.lit (.int .i64 (stC i u)), []) := rfl
theorem stR_inv {v : Value} {x : DataW Unit} {ps : List MemPlace} (h : stR v = some (x, ps)) : ∃ i u, v = .agg #[.int .i64 i, .bool u] ∧ x = .lit (.int .i64 (stC i u)) := by
  unfold stR at h
  split at h
  · next a =>
    split at h
    · next i u e =>
      refine ⟨i, u, ?_, ?_⟩
      · congr 1
        apply Array.ext'
        exact e
      · simp at h
        exact h.1.symm
    · cases h
  · cases h
theorem stC_inj {i j : Int} {u v : Bool} (h : stC i u = stC j v) : i = j ∧ u = v := by
  unfold stC at h
  cases u <;> cases v <;> simp at h ⊢ <;> omega
/-- Block b is a map: each rank has the step that M says, in one direction. -/
def SM (W : World) (b n : Nat) (M : Nat → Option Nat) (up : Bool) : Prop :=
  ∃ D, W.ownsMap Tryz.prog 2 stR b n D ∧ IsMap D ∧ ∀ q : Nat, Maps.has D (.int .i64 (q : Int)) = (M q).isSome ∧ ∀ i, M q = some i → D.atKey (.int .i64 (q : Int)) (.lit (.int .i64 (stC 0 false))) = .lit (.int .i64 (stC (i : Int) up))
theorem sm_new (w : World) (up : Bool) : SM (w.alloc (.map #[] 0)) w.heap.size 0 (fun _ => none) up :=
  ⟨.map [], World.ownsMap_made w Tryz.prog 2 stR, isMap_empty, fun q => ⟨rfl, fun i h => by cases h⟩⟩
theorem SM.congr {W : World} {b n : Nat} {M M' : Nat → Option Nat} {up : Bool} (h : SM W b n M up) (e : ∀ q, M q = M' q) : SM W b n M' up := by
  have : M = M' := funext e
  rw [← this]; exact h
theorem SM.mono {W : World} {b n n' : Nat} {M : Nat → Option Nat} {up : Bool} (h : SM W b n M up) (hn : n ≤ n') : SM W b n' M up := by
  obtain ⟨D, h1, h2⟩ := h
  exact ⟨D, h1.mono hn, h2⟩
theorem SM.lt {W : World} {b n : Nat} {M : Nat → Option Nat} {up : Bool} (h : SM W b n M up) : b < W.heap.size := by
  obtain ⟨D, h1, _⟩ := h
  exact h1.lt
theorem SM.below {W W' : World} {b n : Nat} {M : Nat → Option Nat} {up : Bool} (h : SM W b n M up) (hb : Below W.heap.size W W') : SM W' b n M up := by
  obtain ⟨D, h1, h2⟩ := h
  exact ⟨D, ownsMap_below h1 hb, h2⟩
theorem SM.grown {W W' : World} {b n g : Nat} {M : Nat → Option Nat} {up : Bool} (h : SM W b n M up) (hg : W.grownBy W' (some g)) (hne : b ≠ g) : SM W' b n M up := by
  obtain ⟨D, h1, h2⟩ := h
  exact ⟨D, h1.kept hg (by simp; exact hne), h2⟩
theorem wf_rank {q : Nat} (h : q ≤ 1000) : (Lit.int .i64 (q : Int)).wf = true := WalkArith.wf_i64 (by omega)
/-- v, ok := m[q]. -/
theorem SM.look {W : World} {b n : Nat} {M : Nat → Option Nat} {up : Bool} (h : SM W b n M up) {q : Nat} (hq : q ≤ 1000) :
    ∃ v, (∀ d, (Instr.lookup 135 (.map (some b)) (.int .i64 (q : Int)) true).run Tryz.prog (W.drewN d) = .ok (.tuple #[v, .bool (M q).isSome]) (W.drewN d)) ∧ (∃ i u, v = .agg #[.int .i64 i, .bool u]) ∧ ∀ i, M q = some i → v = .agg #[.int .i64 (i : Int), .bool up] := by
  obtain ⟨D, h1, _, h3⟩ := h
  have run : ∀ d, ∃ v ps, (Instr.lookup 135 (.map (some b)) (.int .i64 (q : Int)) true).run Tryz.prog (W.drewN d) = .ok (.tuple #[v, .bool (Maps.has D (.int .i64 (q : Int)))]) (W.drewN d) ∧ stR v = some (D.atKey (.int .i64 (q : Int)) (.lit (.int .i64 (stC 0 false))), ps) := fun d =>
    (ownsMap_block (w' := W.drewN d) h1 rfl).look_ok Tryz.keyLawI Tryz.underlying135 (Tryz.zeroStep _) (stR_agg 0 false) (keyOf_int_mk Tryz.underlying2 (wf_rank hq))
  obtain ⟨v, ps, hr, hv⟩ := run 0
  obtain ⟨i, u, e1, e2⟩ := stR_inv hv
  refine ⟨v, fun d => ?_, ⟨i, u, e1⟩, fun j hj => ?_⟩
  · obtain ⟨v', ps', hr', hv'⟩ := run d
    obtain ⟨i', u', e1', e2'⟩ := stR_inv hv'
    rw [e2] at e2'
    have : stC i u = stC i' u' := by simpa using e2'
    obtain ⟨rfl, rfl⟩ := stC_inj this
    rw [hr', e1', ← e1, (h3 q).1]
  · have := (h3 q).2 j hj
    rw [e2] at this
    have : stC i u = stC (j : Int) up := by simpa using this
    obtain ⟨rfl, rfl⟩ := stC_inj this
    exact e1
/-- m[q] = step. -/
theorem wpList_smput {w : World} {ops : Array Oper} {rest : List Oper} {o : Oper} {a : Act} {Q : Exit → Act → World → Prop} (hg : o.guard = none) (m x v : Operand) (hop : o.op = Op.mapUpdate 135 m x v) (b n : Nat) {M : Nat → Option Nat} {up : Bool} (hm : a.eval m = .map (some b)) (h : SM w b n M up) (hn : n ≤ 1000000) (q i : Nat) (hq : q ≤ 1000) (hx : a.eval x = .int .i64 (q : Int)) (hv : a.eval v = .agg #[.int .i64 (i : Int), .bool up])
    (hK : ∀ w', SM w' b (n + 1) (fun z => if z = q then some i else M z) up → w.grownBy w' (some b) → wpList Tryz.prog ops Q rest (a.put o.dst undef) w') : wpList Tryz.prog ops Q (o :: rest) a w := by
  obtain ⟨D, h1, h2, h3⟩ := h
  refine wpList_mapUpdate_own w hg m x v 135 hop 2 96 Tryz.keyLawI Tryz.underlying135 stR b n D hm h1 (by unfold maxLen; omega) _ _ _ hx hv (keyOf_int_mk Tryz.underlying2 (wf_rank hq)) _ [] (stR_agg _ _) fun w' k1 k2 => hK w' ⟨_, k1, h2.put _ _, fun z => ?_⟩ k2
  by_cases e : z = q
  · subst e
    simp only [if_pos]
    have hk : WideAt.IsKeyLit (Lit.int .i64 (z : Int)) := trivial
    exact ⟨by rw [has_put_same h2 hk]; rfl, fun j hj => by cases hj; exact atKey_put_same h2 hk _ _⟩
  · simp only [if_neg e]
    have hne : Lit.int .i64 (z : Int) ≠ Lit.int .i64 (q : Int) := fun h => by
      have h' : (z : Int) = (q : Int) := by simpa using h
      omega
    rw [has_put_other hne, atKey_put_other hne]
    exact h3 z

end Go.Proofs.YteibbknpcgcjjaiGreat

/-
  Does a metric fit: the document's helper.
-/
set_option linter.unusedVariables false
set_option linter.unusedSimpArgs false
namespace Go.Proofs.YteibbknpcgcjjaiGreat
open Go.RowKit Go.Deep Go.Joins
attribute [local go_sem ↓] Go.wp_at_zero Go.wp_at_succ

/-- What is asked of a metric. -/
def MOk (k m : Nat) (L H : Nat → Int) (u : Nat) (U : Nat → Int) (v : Nat) (V : Nat → Int) : Prop := Chd (k : Int) m L H ∧ u = m ∧ v = m ∧ InF m U ∧ InF m V ∧ ∀ t ∈ allT m L H m, okT U V t
theorem box2m {w W : World} {a0 a1 c0 c1 : Value} {s t : TypeId} (h : Below (w.heap.size + 2) ((w.alloc (.cells #[a0, a1] s)).alloc (.cells #[c0, c1] t)) W) :
    (W.cell? ⟨w.heap.size, 0, none⟩ = some a0 ∧ W.cell? ⟨w.heap.size, 1, none⟩ = some a1) ∧ (W.cell? ⟨w.heap.size + 1, 0, none⟩ = some c0 ∧ W.cell? ⟨w.heap.size + 1, 1, none⟩ = some c1) ∧ w.heap.size + 2 ≤ W.heap.size := by
  obtain ⟨h1, h2, _, h4⟩ := box22 h
  exact ⟨h1, h2, h4⟩

end Go.Proofs.YteibbknpcgcjjaiGreat

/-
  The program's weights in their bounds.
-/
set_option linter.unusedVariables false
set_option linter.unusedSimpArgs false
namespace Go.Proofs.YteibbknpcgcjjaiGreat
open Go.RowKit
attribute [local go_sem ↓] Go.wp_at_zero Go.wp_at_succ

set_option maxHeartbeats 1000000 in
theorem weightsOk_any (ao : Option Addr) (n cap : Nat) (f : Nat → Int) (c : Nat) (hn : n ≤ 1048576) (hc : c ≤ 1048576) (w : World) (hr : IRow w ao n f) :
    Calls Tryz.prog 120 #[.slice ao n cap, .int .i64 (c : Int)] w fun e w' => BAns e (n = c ∧ InF c f) ∧ w' = w := by
  by_cases hnc : n = c
  rotate_left
  · have HN : Hid (¬ (n = c ∧ InF c f)) := fun h => hnc h.1
    have hnc' : ¬ (n : Int) = (c : Int) := by omega
    go_enter Tryz.func120, Tryz.ntmps120
    go_wp2
    go_ret
    exact ⟨bans_no HN.out, rfl⟩
  subst hnc
  refine (show Calls Tryz.prog 120 #[.slice ao n cap, .int .i64 (n : Int)] w (fun e w' => BAns e (InF n f) ∧ w' = w) from ?_).mono (fun e w' ⟨⟨b, h1, h2⟩, h3⟩ => ⟨⟨b, h1, h2.trans ⟨fun h => ⟨rfl, h⟩, fun h => h.2⟩⟩, h3⟩)
  go_enter Tryz.func120, Tryz.ntmps120
  go_wp2
  go_loop [13] (fun x => ∃ k : Nat, k ≤ n ∧ x = .int .i64 k ∧ InF k f) (fun x => n - (intOf x).toNat)
  case atStart => exact ⟨0, Nat.zero_le _, rfl, fun i hi => by omega⟩
  case round =>
    obtain ⟨k, hk, rfl, hall⟩ := hrel
    have HA : Hid (InF k f) := hall
    clear hall
    by_cases hlt : k < n
    rotate_left
    · have hkn : k = n := by omega
      subst hkn
      go_wp2
      go_ret
      exact ⟨bans_yes HA.out, rfl⟩
    obtain ⟨b, o, hao, c0⟩ := hr k hlt
    subst hao
    have hk1 : (0 : Int) ≤ (k : Int) := by omega
    have hk2 : (k : Int) < (n : Int) := by omega
    by_cases h1 : f k < 0
    · have HN : Hid (¬ InF n f) := fun h => by have := h k hlt; omega
      go_wp2
      go_ret
      exact ⟨bans_no HN.out, rfl⟩
    by_cases h2 : 1000000000000 < f k
    · have HN : Hid (¬ InF n f) := fun h => by have := h k hlt; omega
      go_wp2
      go_ret
      exact ⟨bans_no HN.out, rfl⟩
    have HI : Hid (InF (k + 1) f) := fun i hi => by
      by_cases e : i = k
      · subst e; omega
      · exact HA.out i (by omega)
    go_wp2
    go_roundw
    case rel => exact ⟨k + 1, by omega, by go_num, HI.out⟩
    case measure => simp [intOf]; omega

end Go.Proofs.YteibbknpcgcjjaiGreat
