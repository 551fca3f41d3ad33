/-
  Helpers, merged: RoomO, Weigh, LenP, Clm, ClmP, ShA.
-/
import Derived.Test.YtokaechbmnbbiabGreatPack12
import Derived.Test.YtokaechbmnbbiabGreatPack4
import Derived.Laws.CopyOwn
import Derived.Test.YtokaechbmnbbiabGreatPack11
import Derived.Test.YtokaechbmnbbiabGreatPack1
import Derived.Test.YtokaechbmnbbiabGreatPack7
import Derived.Test.YtokaechbmnbbiabGreatPack10
/-
  The program's room: its lists handed out.
-/
set_option linter.unusedVariables false
set_option linter.unusedSimpArgs false
namespace Go.Proofs.YtokaechbmnbbiabGreat
open Go.RowKit Go.Deep Go.Joins Go.Maps
attribute [local go_sem ↓] Go.wp_at_zero Go.wp_at_succ

theorem drew_b (X : World) : Below X.heap.size X X.drew := (Below.refl _ _).drew
theorem me2_at (A : World) (b : Nat) (x y : Value) (h : b = A.heap.size) : VHas (A.alloc (.cells #[x, y] 34)) b 34 2 (me2 x y) := by subst h; exact me2_new A x y
theorem run_copy_ints (w : World) (c m b : Nat) (f h : Nat → Int) (hc : IHas w c m f) (hb : IHas w b m h) (ty : TypeId) :
    ∃ w', (Builtin.copy_ #[27, 27] ty #[.slice (some ⟨c, 0, none⟩) m m, .slice (some ⟨b, 0, none⟩) m m]).run Tryz.prog w = .ok (goInt m) w' ∧ IHas w' c m h ∧ w.grownBy w' (some c) := by
  have hsz : (Tryz.prog.info? 2).map (·.size) = some 1 := by kernel_rfl
  obtain ⟨cur, hh, hs, hcu⟩ := hc
  have hr := run_copy_row (P := Tryz.prog) w 27 27 ty 2 c 0 m m ⟨b, 0, none⟩ m m cur 2 (icells h m) Tryz.underlying27 hsz hh (by rw [icells_len]; simp) (fun j v hv => by
    by_cases hj : j < m
    · rw [icells_at hj] at hv
      simp at hv
      subst hv
      have : (⟨b, 0, none⟩ : Addr).add j = ⟨b, j, none⟩ := by unfold Addr.add; split <;> simp_all
      rw [this]
      exact hb.cell hj
    · rw [List.getElem?_eq_none (by rw [icells_len]; omega)] at hv
      cases hv) (by rw [icells_len]; omega) (fun v hv => by
    simp [icells] at hv
    obtain ⟨j, _, rfl⟩ := hv
    rfl)
  rw [icells_len] at hr
  refine ⟨_, hr, ?_, gr_setRow w c _⟩
  refine ⟨_, setRow_heap w c cur _ _ _ hh, ?_, fun j hj => ?_⟩
  · simp [icells]
  · simp only [List.take_zero, List.nil_append, List.getElem?_toArray]
    rw [List.getElem?_append_left (by rw [icells_len]; omega), icells_at hj]

structure HO (w : World) (m c d bx : Nat) (X : World) : Prop where
  bel : Below w.heap.size w X
  box : VHas X bx 34 2 (me2 (.slice (some ⟨c, 0, none⟩) m m) (.slice (some ⟨d, 0, none⟩) m m))
  res : VHas X w.heap.size 34 2 (me2 (.slice none 0 0) (.slice none 0 0))
  ic : IHas X c m (fun _ => 0)
  id : IHas X d m (fun _ => 0)
  ne : c ≠ d ∧ c ≠ bx ∧ d ≠ bx
  ge : w.heap.size < c ∧ w.heap.size < d ∧ w.heap.size < bx
theorem ho_0 (w : World) (m : Nat) : HO w m (w.heap.size + 1) (w.heap.size + 1 + 1) (w.heap.size + 1 + 1 + 1) (((((w.alloc (.cells #[.slice none 0 0, .slice none 0 0] 34)).alloc (.cells (madeCells #[.int .i64 0] m) 2)).alloc (.cells (madeCells #[.int .i64 0] m) 2)).alloc (.cells #[.slice (some ⟨w.heap.size + 1, 0, none⟩) m m, .slice (some ⟨w.heap.size + 1 + 1, 0, none⟩) m m] 34)).drew) := by
  refine ⟨(((((Below.refl _ w).alloc (Nat.le_refl _) _).alloc (by simp) _).alloc (by simp; omega) _).alloc (by simp; omega) _).drew, ?_, ?_, ?_, ?_, by omega, by omega⟩
  · repeat (first | (refine me2_at _ _ _ _ ?_; simp; done) | refine VHas.alloc ?_ _ | refine VHas.next ?_ (drew_b _))
  · repeat (first | (refine me2_at _ _ _ _ ?_; simp; done) | (refine me2_at _ _ _ _ ?_; rfl) | refine VHas.alloc ?_ _ | refine VHas.next ?_ (drew_b _))
  · repeat (first | (refine made_at _ _ _ ?_; simp; done) | refine IHas.al ?_ _ | refine IHas.nx ?_ (drew_b _))
  · repeat (first | (refine made_at _ _ _ ?_; simp; done) | refine IHas.al ?_ _ | refine IHas.nx ?_ (drew_b _))
theorem ho_1 (w : World) (m : Nat) : HO w m (w.heap.size + 1) (w.heap.size + 1 + 1 + 1) (w.heap.size + 1 + 1) (((((w.alloc (.cells #[.slice none 0 0, .slice none 0 0] 34)).alloc (.cells (madeCells #[.int .i64 0] m) 2)).alloc (.cells #[.slice (some ⟨w.heap.size + 1, 0, none⟩) m m, .slice (some ⟨w.heap.size + 1 + 1 + 1, 0, none⟩) m m] 34)).alloc (.cells (madeCells #[.int .i64 0] m) 2)).drew) := by
  refine ⟨(((((Below.refl _ w).alloc (Nat.le_refl _) _).alloc (by simp) _).alloc (by simp; omega) _).alloc (by simp; omega) _).drew, ?_, ?_, ?_, ?_, by omega, by omega⟩
  · repeat (first | (refine me2_at _ _ _ _ ?_; simp; done) | refine VHas.alloc ?_ _ | refine VHas.next ?_ (drew_b _))
  · repeat (first | (refine me2_at _ _ _ _ ?_; simp; done) | (refine me2_at _ _ _ _ ?_; rfl) | refine VHas.alloc ?_ _ | refine VHas.next ?_ (drew_b _))
  · repeat (first | (refine made_at _ _ _ ?_; simp; done) | refine IHas.al ?_ _ | refine IHas.nx ?_ (drew_b _))
  · repeat (first | (refine made_at _ _ _ ?_; simp; done) | refine IHas.al ?_ _ | refine IHas.nx ?_ (drew_b _))
theorem ho_2 (w : World) (m : Nat) : HO w m (w.heap.size + 1 + 1) (w.heap.size + 1) (w.heap.size + 1 + 1 + 1) (((((w.alloc (.cells #[.slice none 0 0, .slice none 0 0] 34)).alloc (.cells (madeCells #[.int .i64 0] m) 2)).alloc (.cells (madeCells #[.int .i64 0] m) 2)).alloc (.cells #[.slice (some ⟨w.heap.size + 1 + 1, 0, none⟩) m m, .slice (some ⟨w.heap.size + 1, 0, none⟩) m m] 34)).drew) := by
  refine ⟨(((((Below.refl _ w).alloc (Nat.le_refl _) _).alloc (by simp) _).alloc (by simp; omega) _).alloc (by simp; omega) _).drew, ?_, ?_, ?_, ?_, by omega, by omega⟩
  · repeat (first | (refine me2_at _ _ _ _ ?_; simp; done) | refine VHas.alloc ?_ _ | refine VHas.next ?_ (drew_b _))
  · repeat (first | (refine me2_at _ _ _ _ ?_; simp; done) | (refine me2_at _ _ _ _ ?_; rfl) | refine VHas.alloc ?_ _ | refine VHas.next ?_ (drew_b _))
  · repeat (first | (refine made_at _ _ _ ?_; simp; done) | refine IHas.al ?_ _ | refine IHas.nx ?_ (drew_b _))
  · repeat (first | (refine made_at _ _ _ ?_; simp; done) | refine IHas.al ?_ _ | refine IHas.nx ?_ (drew_b _))
theorem ho_3 (w : World) (m : Nat) : HO w m (w.heap.size + 1 + 1 + 1) (w.heap.size + 1) (w.heap.size + 1 + 1) (((((w.alloc (.cells #[.slice none 0 0, .slice none 0 0] 34)).alloc (.cells (madeCells #[.int .i64 0] m) 2)).alloc (.cells #[.slice (some ⟨w.heap.size + 1 + 1 + 1, 0, none⟩) m m, .slice (some ⟨w.heap.size + 1, 0, none⟩) m m] 34)).alloc (.cells (madeCells #[.int .i64 0] m) 2)).drew) := by
  refine ⟨(((((Below.refl _ w).alloc (Nat.le_refl _) _).alloc (by simp) _).alloc (by simp; omega) _).alloc (by simp; omega) _).drew, ?_, ?_, ?_, ?_, by omega, by omega⟩
  · repeat (first | (refine me2_at _ _ _ _ ?_; simp; done) | refine VHas.alloc ?_ _ | refine VHas.next ?_ (drew_b _))
  · repeat (first | (refine me2_at _ _ _ _ ?_; simp; done) | (refine me2_at _ _ _ _ ?_; rfl) | refine VHas.alloc ?_ _ | refine VHas.next ?_ (drew_b _))
  · repeat (first | (refine made_at _ _ _ ?_; simp; done) | refine IHas.al ?_ _ | refine IHas.nx ?_ (drew_b _))
  · repeat (first | (refine made_at _ _ _ ?_; simp; done) | refine IHas.al ?_ _ | refine IHas.nx ?_ (drew_b _))
theorem ho_4 (w : World) (m : Nat) : HO w m (w.heap.size + 1 + 1) (w.heap.size + 1 + 1 + 1) (w.heap.size + 1) (((((w.alloc (.cells #[.slice none 0 0, .slice none 0 0] 34)).alloc (.cells #[.slice (some ⟨w.heap.size + 1 + 1, 0, none⟩) m m, .slice (some ⟨w.heap.size + 1 + 1 + 1, 0, none⟩) m m] 34)).alloc (.cells (madeCells #[.int .i64 0] m) 2)).alloc (.cells (madeCells #[.int .i64 0] m) 2)).drew) := by
  refine ⟨(((((Below.refl _ w).alloc (Nat.le_refl _) _).alloc (by simp) _).alloc (by simp; omega) _).alloc (by simp; omega) _).drew, ?_, ?_, ?_, ?_, by omega, by omega⟩
  · repeat (first | (refine me2_at _ _ _ _ ?_; simp; done) | refine VHas.alloc ?_ _ | refine VHas.next ?_ (drew_b _))
  · repeat (first | (refine me2_at _ _ _ _ ?_; simp; done) | (refine me2_at _ _ _ _ ?_; rfl) | refine VHas.alloc ?_ _ | refine VHas.next ?_ (drew_b _))
  · repeat (first | (refine made_at _ _ _ ?_; simp; done) | refine IHas.al ?_ _ | refine IHas.nx ?_ (drew_b _))
  · repeat (first | (refine made_at _ _ _ ?_; simp; done) | refine IHas.al ?_ _ | refine IHas.nx ?_ (drew_b _))
theorem ho_5 (w : World) (m : Nat) : HO w m (w.heap.size + 1 + 1 + 1) (w.heap.size + 1 + 1) (w.heap.size + 1) (((((w.alloc (.cells #[.slice none 0 0, .slice none 0 0] 34)).alloc (.cells #[.slice (some ⟨w.heap.size + 1 + 1 + 1, 0, none⟩) m m, .slice (some ⟨w.heap.size + 1 + 1, 0, none⟩) m m] 34)).alloc (.cells (madeCells #[.int .i64 0] m) 2)).alloc (.cells (madeCells #[.int .i64 0] m) 2)).drew) := by
  refine ⟨(((((Below.refl _ w).alloc (Nat.le_refl _) _).alloc (by simp) _).alloc (by simp; omega) _).alloc (by simp; omega) _).drew, ?_, ?_, ?_, ?_, by omega, by omega⟩
  · repeat (first | (refine me2_at _ _ _ _ ?_; simp; done) | refine VHas.alloc ?_ _ | refine VHas.next ?_ (drew_b _))
  · repeat (first | (refine me2_at _ _ _ _ ?_; simp; done) | (refine me2_at _ _ _ _ ?_; rfl) | refine VHas.alloc ?_ _ | refine VHas.next ?_ (drew_b _))
  · repeat (first | (refine made_at _ _ _ ?_; simp; done) | refine IHas.al ?_ _ | refine IHas.nx ?_ (drew_b _))
  · repeat (first | (refine made_at _ _ _ ?_; simp; done) | refine IHas.al ?_ _ | refine IHas.nx ?_ (drew_b _))

set_option maxRecDepth 100000 in
set_option maxHeartbeats 4000000 in
theorem handOut_any (w0 : World) (k m : Nat) (P L H : Nat → Int) (eo : Option Addr) (ecap b g rcap bm bU bV : Nat) (U V : Nat → Int) (hm : m ≤ 1000) (w : World) (hR : Room w0 k P eo m ecap L H b g rcap bm bU bV U V w) :
    Calls Tryz.prog 31 #[.pointer (some ⟨b, 0, none⟩)] w fun e w' => ∃ c d, e = .returned (.agg #[.slice (some ⟨c, 0, none⟩) m m, .slice (some ⟨d, 0, none⟩) m m]) ∧ w.heap.size ≤ c ∧ w.heap.size ≤ d ∧ c ≠ d ∧ IHas w' c m U ∧ IHas w' d m V ∧ w.heap.size + 2 ≤ w'.heap.size ∧ Below w.heap.size w w' := by
  have hmk := make_ints m (by omega)
  have hbl : b < w.heap.size := (Array.getElem?_eq_some_iff.1 hR.box).1
  have hul := hR.up.lt
  have hvl := hR.dn.lt
  have c0 : w.cell? ⟨b, 0, none⟩ = some (.slice eo m ecap) := hR.cell rfl
  go_enter Tryz.func31, Tryz.ntmps31
  go_wp2_with fail
  go_region_held3 (fun X : World => X.cell? ⟨b, 0, none⟩ = some (.slice eo m ecap))
    (first | assumption | (refine keep_cell (B := w.heap.size) (W := w) ?_ (Nat.le_refl _) c0; repeat (first | exact Below.refl _ _ | refine Below.alloc ?_ (by simp <;> omega) _ | refine Below.setCell ?_ (by simp <;> omega) _ | refine Below.drew ?_)))
    (fail)
  · generalize hWX : World.drew _ = X
    have hX : HO w m (w.heap.size + 1) (w.heap.size + 1 + 1) (w.heap.size + 1 + 1 + 1) X := by rw [← hWX]; exact ho_0 w m
    clear hWX
    generalize w.heap.size + 1 + 1 + 1 = bx at hX ⊢
    generalize w.heap.size + 1 + 1 = d at hX ⊢
    generalize w.heap.size + 1 = c at hX ⊢
    clear hmk
    have hge := hX.ge
    have hne := hX.ne
    have bD := below_next hX.bel (Nat.le_refl _) (drew_b X)
    have bxD := hX.box.next (drew_b X)
    have rsD := hX.res.next (drew_b X)
    have idD := hX.id.nx (drew_b X)
    obtain ⟨Y, hrun1, iY, hgY⟩ := run_copy_ints X.drew c m bU _ U (hX.ic.nx (drew_b X)) (hR.up.below bD hul) 3
    have x0 : X.drew.cell? ⟨bx, 0, none⟩ = some (.slice (some ⟨c, 0, none⟩) m m) := bxD.cell (j := 0) (by omega)
    have x3 : X.drew.cell? ⟨b, 3, none⟩ = some (.slice (some ⟨bU, 0, none⟩) m m) := keep_cell bD (Nat.le_refl _) (hR.cell rfl)
    have y0 := cell_turn x0 hgY (by omega)
    have y3 := cell_turn x3 hgY (by omega)
    have bY : Below w.heap.size w Y := below_far (B := w.heap.size) bD hgY (fun x e => by cases e; omega) (Nat.le_refl _)
    have bxY := bxD.grown hgY (by simp; omega)
    have rsY := rsD.grown hgY (by simp; omega)
    have idY := idD.grown hgY (by simp; omega)
    clear hX bD bxD rsD idD hgY
    go_wp2_with fail
    go_region_held3 (fun X : World => X.cell? ⟨bx, 0, none⟩ = some (.slice (some ⟨c, 0, none⟩) m m) ∧ X.cell? ⟨b, 3, none⟩ = some (.slice (some ⟨bU, 0, none⟩) m m))
      (first | exact ⟨y0, y3⟩ | exact ⟨x0, x3⟩ | assumption)
      (fail)
    clear x0 x3 y0 y3 hrun1
    have bD := below_next bY (Nat.le_refl _) (drew_b Y)
    have bxD := bxY.next (drew_b Y)
    have rsD := rsY.next (drew_b Y)
    have icD := iY.nx (drew_b Y)
    obtain ⟨Z, hrun1, iZ, hgZ⟩ := run_copy_ints Y.drew d m bV _ V (idY.nx (drew_b Y)) (hR.dn.below bD hvl) 3
    have x0 : Y.drew.cell? ⟨bx, 1, none⟩ = some (.slice (some ⟨d, 0, none⟩) m m) := bxD.cell (j := 1) (by omega)
    have x3 : Y.drew.cell? ⟨b, 4, none⟩ = some (.slice (some ⟨bV, 0, none⟩) m m) := keep_cell bD (Nat.le_refl _) (hR.cell rfl)
    have y0 := cell_turn x0 hgZ (by omega)
    have y3 := cell_turn x3 hgZ (by omega)
    have bZ : Below w.heap.size w Z := below_far (B := w.heap.size) bD hgZ (fun x e => by cases e; omega) (Nat.le_refl _)
    have bxZ := bxD.grown hgZ (by simp; omega)
    have rsZ := rsD.grown hgZ (by simp; omega)
    have icZ := icD.grown hgZ (by simp; omega)
    clear bD bxD rsD icD hgZ bY bxY rsY iY idY
    go_wp2_with fail
    go_region_held3 (fun X : World => X.cell? ⟨bx, 1, none⟩ = some (.slice (some ⟨d, 0, none⟩) m m) ∧ X.cell? ⟨b, 4, none⟩ = some (.slice (some ⟨bV, 0, none⟩) m m))
      (first | exact ⟨y0, y3⟩ | exact ⟨x0, x3⟩ | assumption)
      (fail)
    clear x0 x3 y0 y3 hrun1
    have x0 : Z.cell? ⟨bx, 0, none⟩ = some (.slice (some ⟨c, 0, none⟩) m m) := bxZ.cell (j := 0) (by omega)
    have x1 : Z.cell? ⟨bx, 1, none⟩ = some (.slice (some ⟨d, 0, none⟩) m m) := bxZ.cell (j := 1) (by omega)
    have r0 : Z.cell? ⟨w.heap.size, 0, none⟩ = some (.slice none 0 0) := rsZ.cell (j := 0) (by omega)
    have r1 : Z.cell? ⟨w.heap.size, 1, none⟩ = some (.slice none 0 0) := rsZ.cell (j := 1) (by omega)
    have z0 := rsZ.frozen 0
    have z1 := rsZ.frozen 1
    have hlx := bxZ.lt
    go_wp2
    have hB4 := ret_below bZ (s := w.heap.size) (Nat.le_refl _) (.slice (some ⟨c, 0, none⟩) m m) (.slice (some ⟨d, 0, none⟩) m m)
    have d0 : ((Z.setCell ⟨w.heap.size, 0, none⟩ (.slice (some ⟨c, 0, none⟩) m m)).setCell ⟨w.heap.size, 1, none⟩ (.slice (some ⟨d, 0, none⟩) m m)).cell? ⟨w.heap.size, 0, none⟩ = some (.slice (some ⟨c, 0, none⟩) m m) := by simp [go_sem, r0, r1]
    have d1 : ((Z.setCell ⟨w.heap.size, 0, none⟩ (.slice (some ⟨c, 0, none⟩) m m)).setCell ⟨w.heap.size, 1, none⟩ (.slice (some ⟨d, 0, none⟩) m m)).cell? ⟨w.heap.size, 1, none⟩ = some (.slice (some ⟨d, 0, none⟩) m m) := by simp [go_sem, r0, r1]
    have hU4 := icZ.of_block (ret_block (W := Z) (s := w.heap.size) (b := c) (.slice (some ⟨c, 0, none⟩) m m) (.slice (some ⟨d, 0, none⟩) m m) (by omega))
    have hV4 := iZ.of_block (ret_block (W := Z) (s := w.heap.size) (b := d) (.slice (some ⟨c, 0, none⟩) m m) (.slice (some ⟨d, 0, none⟩) m m) (by omega))
    have hs4 : w.heap.size + 2 ≤ ((Z.setCell ⟨w.heap.size, 0, none⟩ (.slice (some ⟨c, 0, none⟩) m m)).setCell ⟨w.heap.size, 1, none⟩ (.slice (some ⟨d, 0, none⟩) m m)).heap.size := by simp [World.setCell]; omega
    generalize ((Z.setCell ⟨w.heap.size, 0, none⟩ (.slice (some ⟨c, 0, none⟩) m m)).setCell ⟨w.heap.size, 1, none⟩ (.slice (some ⟨d, 0, none⟩) m m)) = W4 at hB4 d0 d1 hU4 hV4 hs4 ⊢
    clear bZ bxZ rsZ icZ iZ x0 x1 r0 r1 z0 z1
    simp [bodyPost, results, Tryz.results31, go_sem, d0, d1]
    exact ⟨c, d, by simp, by omega, by omega, by omega, hU4, hV4, hs4, hB4⟩
  · generalize hWX : World.drew _ = X
    have hX : HO w m (w.heap.size + 1) (w.heap.size + 1 + 1 + 1) (w.heap.size + 1 + 1) X := by rw [← hWX]; exact ho_1 w m
    clear hWX
    generalize w.heap.size + 1 + 1 + 1 = d at hX ⊢
    generalize w.heap.size + 1 + 1 = bx at hX ⊢
    generalize w.heap.size + 1 = c at hX ⊢
    clear hmk
    have hge := hX.ge
    have hne := hX.ne
    have bD := below_next hX.bel (Nat.le_refl _) (drew_b X)
    have bxD := hX.box.next (drew_b X)
    have rsD := hX.res.next (drew_b X)
    have idD := hX.id.nx (drew_b X)
    obtain ⟨Y, hrun1, iY, hgY⟩ := run_copy_ints X.drew c m bU _ U (hX.ic.nx (drew_b X)) (hR.up.below bD hul) 3
    have x0 : X.drew.cell? ⟨bx, 0, none⟩ = some (.slice (some ⟨c, 0, none⟩) m m) := bxD.cell (j := 0) (by omega)
    have x3 : X.drew.cell? ⟨b, 3, none⟩ = some (.slice (some ⟨bU, 0, none⟩) m m) := keep_cell bD (Nat.le_refl _) (hR.cell rfl)
    have y0 := cell_turn x0 hgY (by omega)
    have y3 := cell_turn x3 hgY (by omega)
    have bY : Below w.heap.size w Y := below_far (B := w.heap.size) bD hgY (fun x e => by cases e; omega) (Nat.le_refl _)
    have bxY := bxD.grown hgY (by simp; omega)
    have rsY := rsD.grown hgY (by simp; omega)
    have idY := idD.grown hgY (by simp; omega)
    clear hX bD bxD rsD idD hgY
    go_wp2_with fail
    go_region_held3 (fun X : World => X.cell? ⟨bx, 0, none⟩ = some (.slice (some ⟨c, 0, none⟩) m m) ∧ X.cell? ⟨b, 3, none⟩ = some (.slice (some ⟨bU, 0, none⟩) m m))
      (first | exact ⟨y0, y3⟩ | exact ⟨x0, x3⟩ | assumption)
      (fail)
    clear x0 x3 y0 y3 hrun1
    have bD := below_next bY (Nat.le_refl _) (drew_b Y)
    have bxD := bxY.next (drew_b Y)
    have rsD := rsY.next (drew_b Y)
    have icD := iY.nx (drew_b Y)
    obtain ⟨Z, hrun1, iZ, hgZ⟩ := run_copy_ints Y.drew d m bV _ V (idY.nx (drew_b Y)) (hR.dn.below bD hvl) 3
    have x0 : Y.drew.cell? ⟨bx, 1, none⟩ = some (.slice (some ⟨d, 0, none⟩) m m) := bxD.cell (j := 1) (by omega)
    have x3 : Y.drew.cell? ⟨b, 4, none⟩ = some (.slice (some ⟨bV, 0, none⟩) m m) := keep_cell bD (Nat.le_refl _) (hR.cell rfl)
    have y0 := cell_turn x0 hgZ (by omega)
    have y3 := cell_turn x3 hgZ (by omega)
    have bZ : Below w.heap.size w Z := below_far (B := w.heap.size) bD hgZ (fun x e => by cases e; omega) (Nat.le_refl _)
    have bxZ := bxD.grown hgZ (by simp; omega)
    have rsZ := rsD.grown hgZ (by simp; omega)
    have icZ := icD.grown hgZ (by simp; omega)
    clear bD bxD rsD icD hgZ bY bxY rsY iY idY
    go_wp2_with fail
    go_region_held3 (fun X : World => X.cell? ⟨bx, 1, none⟩ = some (.slice (some ⟨d, 0, none⟩) m m) ∧ X.cell? ⟨b, 4, none⟩ = some (.slice (some ⟨bV, 0, none⟩) m m))
      (first | exact ⟨y0, y3⟩ | exact ⟨x0, x3⟩ | assumption)
      (fail)
    clear x0 x3 y0 y3 hrun1
    have x0 : Z.cell? ⟨bx, 0, none⟩ = some (.slice (some ⟨c, 0, none⟩) m m) := bxZ.cell (j := 0) (by omega)
    have x1 : Z.cell? ⟨bx, 1, none⟩ = some (.slice (some ⟨d, 0, none⟩) m m) := bxZ.cell (j := 1) (by omega)
    have r0 : Z.cell? ⟨w.heap.size, 0, none⟩ = some (.slice none 0 0) := rsZ.cell (j := 0) (by omega)
    have r1 : Z.cell? ⟨w.heap.size, 1, none⟩ = some (.slice none 0 0) := rsZ.cell (j := 1) (by omega)
    have z0 := rsZ.frozen 0
    have z1 := rsZ.frozen 1
    have hlx := bxZ.lt
    go_wp2
    have hB4 := ret_below bZ (s := w.heap.size) (Nat.le_refl _) (.slice (some ⟨c, 0, none⟩) m m) (.slice (some ⟨d, 0, none⟩) m m)
    have d0 : ((Z.setCell ⟨w.heap.size, 0, none⟩ (.slice (some ⟨c, 0, none⟩) m m)).setCell ⟨w.heap.size, 1, none⟩ (.slice (some ⟨d, 0, none⟩) m m)).cell? ⟨w.heap.size, 0, none⟩ = some (.slice (some ⟨c, 0, none⟩) m m) := by simp [go_sem, r0, r1]
    have d1 : ((Z.setCell ⟨w.heap.size, 0, none⟩ (.slice (some ⟨c, 0, none⟩) m m)).setCell ⟨w.heap.size, 1, none⟩ (.slice (some ⟨d, 0, none⟩) m m)).cell? ⟨w.heap.size, 1, none⟩ = some (.slice (some ⟨d, 0, none⟩) m m) := by simp [go_sem, r0, r1]
    have hU4 := icZ.of_block (ret_block (W := Z) (s := w.heap.size) (b := c) (.slice (some ⟨c, 0, none⟩) m m) (.slice (some ⟨d, 0, none⟩) m m) (by omega))
    have hV4 := iZ.of_block (ret_block (W := Z) (s := w.heap.size) (b := d) (.slice (some ⟨c, 0, none⟩) m m) (.slice (some ⟨d, 0, none⟩) m m) (by omega))
    have hs4 : w.heap.size + 2 ≤ ((Z.setCell ⟨w.heap.size, 0, none⟩ (.slice (some ⟨c, 0, none⟩) m m)).setCell ⟨w.heap.size, 1, none⟩ (.slice (some ⟨d, 0, none⟩) m m)).heap.size := by simp [World.setCell]; omega
    generalize ((Z.setCell ⟨w.heap.size, 0, none⟩ (.slice (some ⟨c, 0, none⟩) m m)).setCell ⟨w.heap.size, 1, none⟩ (.slice (some ⟨d, 0, none⟩) m m)) = W4 at hB4 d0 d1 hU4 hV4 hs4 ⊢
    clear bZ bxZ rsZ icZ iZ x0 x1 r0 r1 z0 z1
    simp [bodyPost, results, Tryz.results31, go_sem, d0, d1]
    exact ⟨c, d, by simp, by omega, by omega, by omega, hU4, hV4, hs4, hB4⟩
  · generalize hWX : World.drew _ = X
    have hX : HO w m (w.heap.size + 1 + 1) (w.heap.size + 1) (w.heap.size + 1 + 1 + 1) X := by rw [← hWX]; exact ho_2 w m
    clear hWX
    generalize w.heap.size + 1 + 1 + 1 = bx at hX ⊢
    generalize w.heap.size + 1 + 1 = c at hX ⊢
    generalize w.heap.size + 1 = d at hX ⊢
    clear hmk
    have hge := hX.ge
    have hne := hX.ne
    have bD := below_next hX.bel (Nat.le_refl _) (drew_b X)
    have bxD := hX.box.next (drew_b X)
    have rsD := hX.res.next (drew_b X)
    have idD := hX.id.nx (drew_b X)
    obtain ⟨Y, hrun1, iY, hgY⟩ := run_copy_ints X.drew c m bU _ U (hX.ic.nx (drew_b X)) (hR.up.below bD hul) 3
    have x0 : X.drew.cell? ⟨bx, 0, none⟩ = some (.slice (some ⟨c, 0, none⟩) m m) := bxD.cell (j := 0) (by omega)
    have x3 : X.drew.cell? ⟨b, 3, none⟩ = some (.slice (some ⟨bU, 0, none⟩) m m) := keep_cell bD (Nat.le_refl _) (hR.cell rfl)
    have y0 := cell_turn x0 hgY (by omega)
    have y3 := cell_turn x3 hgY (by omega)
    have bY : Below w.heap.size w Y := below_far (B := w.heap.size) bD hgY (fun x e => by cases e; omega) (Nat.le_refl _)
    have bxY := bxD.grown hgY (by simp; omega)
    have rsY := rsD.grown hgY (by simp; omega)
    have idY := idD.grown hgY (by simp; omega)
    clear hX bD bxD rsD idD hgY
    go_wp2_with fail
    go_region_held3 (fun X : World => X.cell? ⟨bx, 0, none⟩ = some (.slice (some ⟨c, 0, none⟩) m m) ∧ X.cell? ⟨b, 3, none⟩ = some (.slice (some ⟨bU, 0, none⟩) m m))
      (first | exact ⟨y0, y3⟩ | exact ⟨x0, x3⟩ | assumption)
      (fail)
    clear x0 x3 y0 y3 hrun1
    have bD := below_next bY (Nat.le_refl _) (drew_b Y)
    have bxD := bxY.next (drew_b Y)
    have rsD := rsY.next (drew_b Y)
    have icD := iY.nx (drew_b Y)
    obtain ⟨Z, hrun1, iZ, hgZ⟩ := run_copy_ints Y.drew d m bV _ V (idY.nx (drew_b Y)) (hR.dn.below bD hvl) 3
    have x0 : Y.drew.cell? ⟨bx, 1, none⟩ = some (.slice (some ⟨d, 0, none⟩) m m) := bxD.cell (j := 1) (by omega)
    have x3 : Y.drew.cell? ⟨b, 4, none⟩ = some (.slice (some ⟨bV, 0, none⟩) m m) := keep_cell bD (Nat.le_refl _) (hR.cell rfl)
    have y0 := cell_turn x0 hgZ (by omega)
    have y3 := cell_turn x3 hgZ (by omega)
    have bZ : Below w.heap.size w Z := below_far (B := w.heap.size) bD hgZ (fun x e => by cases e; omega) (Nat.le_refl _)
    have bxZ := bxD.grown hgZ (by simp; omega)
    have rsZ := rsD.grown hgZ (by simp; omega)
    have icZ := icD.grown hgZ (by simp; omega)
    clear bD bxD rsD icD hgZ bY bxY rsY iY idY
    go_wp2_with fail
    go_region_held3 (fun X : World => X.cell? ⟨bx, 1, none⟩ = some (.slice (some ⟨d, 0, none⟩) m m) ∧ X.cell? ⟨b, 4, none⟩ = some (.slice (some ⟨bV, 0, none⟩) m m))
      (first | exact ⟨y0, y3⟩ | exact ⟨x0, x3⟩ | assumption)
      (fail)
    clear x0 x3 y0 y3 hrun1
    have x0 : Z.cell? ⟨bx, 0, none⟩ = some (.slice (some ⟨c, 0, none⟩) m m) := bxZ.cell (j := 0) (by omega)
    have x1 : Z.cell? ⟨bx, 1, none⟩ = some (.slice (some ⟨d, 0, none⟩) m m) := bxZ.cell (j := 1) (by omega)
    have r0 : Z.cell? ⟨w.heap.size, 0, none⟩ = some (.slice none 0 0) := rsZ.cell (j := 0) (by omega)
    have r1 : Z.cell? ⟨w.heap.size, 1, none⟩ = some (.slice none 0 0) := rsZ.cell (j := 1) (by omega)
    have z0 := rsZ.frozen 0
    have z1 := rsZ.frozen 1
    have hlx := bxZ.lt
    go_wp2
    have hB4 := ret_below bZ (s := w.heap.size) (Nat.le_refl _) (.slice (some ⟨c, 0, none⟩) m m) (.slice (some ⟨d, 0, none⟩) m m)
    have d0 : ((Z.setCell ⟨w.heap.size, 0, none⟩ (.slice (some ⟨c, 0, none⟩) m m)).setCell ⟨w.heap.size, 1, none⟩ (.slice (some ⟨d, 0, none⟩) m m)).cell? ⟨w.heap.size, 0, none⟩ = some (.slice (some ⟨c, 0, none⟩) m m) := by simp [go_sem, r0, r1]
    have d1 : ((Z.setCell ⟨w.heap.size, 0, none⟩ (.slice (some ⟨c, 0, none⟩) m m)).setCell ⟨w.heap.size, 1, none⟩ (.slice (some ⟨d, 0, none⟩) m m)).cell? ⟨w.heap.size, 1, none⟩ = some (.slice (some ⟨d, 0, none⟩) m m) := by simp [go_sem, r0, r1]
    have hU4 := icZ.of_block (ret_block (W := Z) (s := w.heap.size) (b := c) (.slice (some ⟨c, 0, none⟩) m m) (.slice (some ⟨d, 0, none⟩) m m) (by omega))
    have hV4 := iZ.of_block (ret_block (W := Z) (s := w.heap.size) (b := d) (.slice (some ⟨c, 0, none⟩) m m) (.slice (some ⟨d, 0, none⟩) m m) (by omega))
    have hs4 : w.heap.size + 2 ≤ ((Z.setCell ⟨w.heap.size, 0, none⟩ (.slice (some ⟨c, 0, none⟩) m m)).setCell ⟨w.heap.size, 1, none⟩ (.slice (some ⟨d, 0, none⟩) m m)).heap.size := by simp [World.setCell]; omega
    generalize ((Z.setCell ⟨w.heap.size, 0, none⟩ (.slice (some ⟨c, 0, none⟩) m m)).setCell ⟨w.heap.size, 1, none⟩ (.slice (some ⟨d, 0, none⟩) m m)) = W4 at hB4 d0 d1 hU4 hV4 hs4 ⊢
    clear bZ bxZ rsZ icZ iZ x0 x1 r0 r1 z0 z1
    simp [bodyPost, results, Tryz.results31, go_sem, d0, d1]
    exact ⟨c, d, by simp, by omega, by omega, by omega, hU4, hV4, hs4, hB4⟩
  · generalize hWX : World.drew _ = X
    have hX : HO w m (w.heap.size + 1 + 1 + 1) (w.heap.size + 1) (w.heap.size + 1 + 1) X := by rw [← hWX]; exact ho_3 w m
    clear hWX
    generalize w.heap.size + 1 + 1 + 1 = c at hX ⊢
    generalize w.heap.size + 1 + 1 = bx at hX ⊢
    generalize w.heap.size + 1 = d at hX ⊢
    clear hmk
    have hge := hX.ge
    have hne := hX.ne
    have bD := below_next hX.bel (Nat.le_refl _) (drew_b X)
    have bxD := hX.box.next (drew_b X)
    have rsD := hX.res.next (drew_b X)
    have idD := hX.id.nx (drew_b X)
    obtain ⟨Y, hrun1, iY, hgY⟩ := run_copy_ints X.drew c m bU _ U (hX.ic.nx (drew_b X)) (hR.up.below bD hul) 3
    have x0 : X.drew.cell? ⟨bx, 0, none⟩ = some (.slice (some ⟨c, 0, none⟩) m m) := bxD.cell (j := 0) (by omega)
    have x3 : X.drew.cell? ⟨b, 3, none⟩ = some (.slice (some ⟨bU, 0, none⟩) m m) := keep_cell bD (Nat.le_refl _) (hR.cell rfl)
    have y0 := cell_turn x0 hgY (by omega)
    have y3 := cell_turn x3 hgY (by omega)
    have bY : Below w.heap.size w Y := below_far (B := w.heap.size) bD hgY (fun x e => by cases e; omega) (Nat.le_refl _)
    have bxY := bxD.grown hgY (by simp; omega)
    have rsY := rsD.grown hgY (by simp; omega)
    have idY := idD.grown hgY (by simp; omega)
    clear hX bD bxD rsD idD hgY
    go_wp2_with fail
    go_region_held3 (fun X : World => X.cell? ⟨bx, 0, none⟩ = some (.slice (some ⟨c, 0, none⟩) m m) ∧ X.cell? ⟨b, 3, none⟩ = some (.slice (some ⟨bU, 0, none⟩) m m))
      (first | exact ⟨y0, y3⟩ | exact ⟨x0, x3⟩ | assumption)
      (fail)
    clear x0 x3 y0 y3 hrun1
    have bD := below_next bY (Nat.le_refl _) (drew_b Y)
    have bxD := bxY.next (drew_b Y)
    have rsD := rsY.next (drew_b Y)
    have icD := iY.nx (drew_b Y)
    obtain ⟨Z, hrun1, iZ, hgZ⟩ := run_copy_ints Y.drew d m bV _ V (idY.nx (drew_b Y)) (hR.dn.below bD hvl) 3
    have x0 : Y.drew.cell? ⟨bx, 1, none⟩ = some (.slice (some ⟨d, 0, none⟩) m m) := bxD.cell (j := 1) (by omega)
    have x3 : Y.drew.cell? ⟨b, 4, none⟩ = some (.slice (some ⟨bV, 0, none⟩) m m) := keep_cell bD (Nat.le_refl _) (hR.cell rfl)
    have y0 := cell_turn x0 hgZ (by omega)
    have y3 := cell_turn x3 hgZ (by omega)
    have bZ : Below w.heap.size w Z := below_far (B := w.heap.size) bD hgZ (fun x e => by cases e; omega) (Nat.le_refl _)
    have bxZ := bxD.grown hgZ (by simp; omega)
    have rsZ := rsD.grown hgZ (by simp; omega)
    have icZ := icD.grown hgZ (by simp; omega)
    clear bD bxD rsD icD hgZ bY bxY rsY iY idY
    go_wp2_with fail
    go_region_held3 (fun X : World => X.cell? ⟨bx, 1, none⟩ = some (.slice (some ⟨d, 0, none⟩) m m) ∧ X.cell? ⟨b, 4, none⟩ = some (.slice (some ⟨bV, 0, none⟩) m m))
      (first | exact ⟨y0, y3⟩ | exact ⟨x0, x3⟩ | assumption)
      (fail)
    clear x0 x3 y0 y3 hrun1
    have x0 : Z.cell? ⟨bx, 0, none⟩ = some (.slice (some ⟨c, 0, none⟩) m m) := bxZ.cell (j := 0) (by omega)
    have x1 : Z.cell? ⟨bx, 1, none⟩ = some (.slice (some ⟨d, 0, none⟩) m m) := bxZ.cell (j := 1) (by omega)
    have r0 : Z.cell? ⟨w.heap.size, 0, none⟩ = some (.slice none 0 0) := rsZ.cell (j := 0) (by omega)
    have r1 : Z.cell? ⟨w.heap.size, 1, none⟩ = some (.slice none 0 0) := rsZ.cell (j := 1) (by omega)
    have z0 := rsZ.frozen 0
    have z1 := rsZ.frozen 1
    have hlx := bxZ.lt
    go_wp2
    have hB4 := ret_below bZ (s := w.heap.size) (Nat.le_refl _) (.slice (some ⟨c, 0, none⟩) m m) (.slice (some ⟨d, 0, none⟩) m m)
    have d0 : ((Z.setCell ⟨w.heap.size, 0, none⟩ (.slice (some ⟨c, 0, none⟩) m m)).setCell ⟨w.heap.size, 1, none⟩ (.slice (some ⟨d, 0, none⟩) m m)).cell? ⟨w.heap.size, 0, none⟩ = some (.slice (some ⟨c, 0, none⟩) m m) := by simp [go_sem, r0, r1]
    have d1 : ((Z.setCell ⟨w.heap.size, 0, none⟩ (.slice (some ⟨c, 0, none⟩) m m)).setCell ⟨w.heap.size, 1, none⟩ (.slice (some ⟨d, 0, none⟩) m m)).cell? ⟨w.heap.size, 1, none⟩ = some (.slice (some ⟨d, 0, none⟩) m m) := by simp [go_sem, r0, r1]
    have hU4 := icZ.of_block (ret_block (W := Z) (s := w.heap.size) (b := c) (.slice (some ⟨c, 0, none⟩) m m) (.slice (some ⟨d, 0, none⟩) m m) (by omega))
    have hV4 := iZ.of_block (ret_block (W := Z) (s := w.heap.size) (b := d) (.slice (some ⟨c, 0, none⟩) m m) (.slice (some ⟨d, 0, none⟩) m m) (by omega))
    have hs4 : w.heap.size + 2 ≤ ((Z.setCell ⟨w.heap.size, 0, none⟩ (.slice (some ⟨c, 0, none⟩) m m)).setCell ⟨w.heap.size, 1, none⟩ (.slice (some ⟨d, 0, none⟩) m m)).heap.size := by simp [World.setCell]; omega
    generalize ((Z.setCell ⟨w.heap.size, 0, none⟩ (.slice (some ⟨c, 0, none⟩) m m)).setCell ⟨w.heap.size, 1, none⟩ (.slice (some ⟨d, 0, none⟩) m m)) = W4 at hB4 d0 d1 hU4 hV4 hs4 ⊢
    clear bZ bxZ rsZ icZ iZ x0 x1 r0 r1 z0 z1
    simp [bodyPost, results, Tryz.results31, go_sem, d0, d1]
    exact ⟨c, d, by simp, by omega, by omega, by omega, hU4, hV4, hs4, hB4⟩
  · generalize hWX : World.drew _ = X
    have hX : HO w m (w.heap.size + 1 + 1) (w.heap.size + 1 + 1 + 1) (w.heap.size + 1) X := by rw [← hWX]; exact ho_4 w m
    clear hWX
    generalize w.heap.size + 1 + 1 + 1 = d at hX ⊢
    generalize w.heap.size + 1 + 1 = c at hX ⊢
    generalize w.heap.size + 1 = bx at hX ⊢
    clear hmk
    have hge := hX.ge
    have hne := hX.ne
    have bD := below_next hX.bel (Nat.le_refl _) (drew_b X)
    have bxD := hX.box.next (drew_b X)
    have rsD := hX.res.next (drew_b X)
    have idD := hX.id.nx (drew_b X)
    obtain ⟨Y, hrun1, iY, hgY⟩ := run_copy_ints X.drew c m bU _ U (hX.ic.nx (drew_b X)) (hR.up.below bD hul) 3
    have x0 : X.drew.cell? ⟨bx, 0, none⟩ = some (.slice (some ⟨c, 0, none⟩) m m) := bxD.cell (j := 0) (by omega)
    have x3 : X.drew.cell? ⟨b, 3, none⟩ = some (.slice (some ⟨bU, 0, none⟩) m m) := keep_cell bD (Nat.le_refl _) (hR.cell rfl)
    have y0 := cell_turn x0 hgY (by omega)
    have y3 := cell_turn x3 hgY (by omega)
    have bY : Below w.heap.size w Y := below_far (B := w.heap.size) bD hgY (fun x e => by cases e; omega) (Nat.le_refl _)
    have bxY := bxD.grown hgY (by simp; omega)
    have rsY := rsD.grown hgY (by simp; omega)
    have idY := idD.grown hgY (by simp; omega)
    clear hX bD bxD rsD idD hgY
    go_wp2_with fail
    go_region_held3 (fun X : World => X.cell? ⟨bx, 0, none⟩ = some (.slice (some ⟨c, 0, none⟩) m m) ∧ X.cell? ⟨b, 3, none⟩ = some (.slice (some ⟨bU, 0, none⟩) m m))
      (first | exact ⟨y0, y3⟩ | exact ⟨x0, x3⟩ | assumption)
      (fail)
    clear x0 x3 y0 y3 hrun1
    have bD := below_next bY (Nat.le_refl _) (drew_b Y)
    have bxD := bxY.next (drew_b Y)
    have rsD := rsY.next (drew_b Y)
    have icD := iY.nx (drew_b Y)
    obtain ⟨Z, hrun1, iZ, hgZ⟩ := run_copy_ints Y.drew d m bV _ V (idY.nx (drew_b Y)) (hR.dn.below bD hvl) 3
    have x0 : Y.drew.cell? ⟨bx, 1, none⟩ = some (.slice (some ⟨d, 0, none⟩) m m) := bxD.cell (j := 1) (by omega)
    have x3 : Y.drew.cell? ⟨b, 4, none⟩ = some (.slice (some ⟨bV, 0, none⟩) m m) := keep_cell bD (Nat.le_refl _) (hR.cell rfl)
    have y0 := cell_turn x0 hgZ (by omega)
    have y3 := cell_turn x3 hgZ (by omega)
    have bZ : Below w.heap.size w Z := below_far (B := w.heap.size) bD hgZ (fun x e => by cases e; omega) (Nat.le_refl _)
    have bxZ := bxD.grown hgZ (by simp; omega)
    have rsZ := rsD.grown hgZ (by simp; omega)
    have icZ := icD.grown hgZ (by simp; omega)
    clear bD bxD rsD icD hgZ bY bxY rsY iY idY
    go_wp2_with fail
    go_region_held3 (fun X : World => X.cell? ⟨bx, 1, none⟩ = some (.slice (some ⟨d, 0, none⟩) m m) ∧ X.cell? ⟨b, 4, none⟩ = some (.slice (some ⟨bV, 0, none⟩) m m))
      (first | exact ⟨y0, y3⟩ | exact ⟨x0, x3⟩ | assumption)
      (fail)
    clear x0 x3 y0 y3 hrun1
    have x0 : Z.cell? ⟨bx, 0, none⟩ = some (.slice (some ⟨c, 0, none⟩) m m) := bxZ.cell (j := 0) (by omega)
    have x1 : Z.cell? ⟨bx, 1, none⟩ = some (.slice (some ⟨d, 0, none⟩) m m) := bxZ.cell (j := 1) (by omega)
    have r0 : Z.cell? ⟨w.heap.size, 0, none⟩ = some (.slice none 0 0) := rsZ.cell (j := 0) (by omega)
    have r1 : Z.cell? ⟨w.heap.size, 1, none⟩ = some (.slice none 0 0) := rsZ.cell (j := 1) (by omega)
    have z0 := rsZ.frozen 0
    have z1 := rsZ.frozen 1
    have hlx := bxZ.lt
    go_wp2
    have hB4 := ret_below bZ (s := w.heap.size) (Nat.le_refl _) (.slice (some ⟨c, 0, none⟩) m m) (.slice (some ⟨d, 0, none⟩) m m)
    have d0 : ((Z.setCell ⟨w.heap.size, 0, none⟩ (.slice (some ⟨c, 0, none⟩) m m)).setCell ⟨w.heap.size, 1, none⟩ (.slice (some ⟨d, 0, none⟩) m m)).cell? ⟨w.heap.size, 0, none⟩ = some (.slice (some ⟨c, 0, none⟩) m m) := by simp [go_sem, r0, r1]
    have d1 : ((Z.setCell ⟨w.heap.size, 0, none⟩ (.slice (some ⟨c, 0, none⟩) m m)).setCell ⟨w.heap.size, 1, none⟩ (.slice (some ⟨d, 0, none⟩) m m)).cell? ⟨w.heap.size, 1, none⟩ = some (.slice (some ⟨d, 0, none⟩) m m) := by simp [go_sem, r0, r1]
    have hU4 := icZ.of_block (ret_block (W := Z) (s := w.heap.size) (b := c) (.slice (some ⟨c, 0, none⟩) m m) (.slice (some ⟨d, 0, none⟩) m m) (by omega))
    have hV4 := iZ.of_block (ret_block (W := Z) (s := w.heap.size) (b := d) (.slice (some ⟨c, 0, none⟩) m m) (.slice (some ⟨d, 0, none⟩) m m) (by omega))
    have hs4 : w.heap.size + 2 ≤ ((Z.setCell ⟨w.heap.size, 0, none⟩ (.slice (some ⟨c, 0, none⟩) m m)).setCell ⟨w.heap.size, 1, none⟩ (.slice (some ⟨d, 0, none⟩) m m)).heap.size := by simp [World.setCell]; omega
    generalize ((Z.setCell ⟨w.heap.size, 0, none⟩ (.slice (some ⟨c, 0, none⟩) m m)).setCell ⟨w.heap.size, 1, none⟩ (.slice (some ⟨d, 0, none⟩) m m)) = W4 at hB4 d0 d1 hU4 hV4 hs4 ⊢
    clear bZ bxZ rsZ icZ iZ x0 x1 r0 r1 z0 z1
    simp [bodyPost, results, Tryz.results31, go_sem, d0, d1]
    exact ⟨c, d, by simp, by omega, by omega, by omega, hU4, hV4, hs4, hB4⟩
  · generalize hWX : World.drew _ = X
    have hX : HO w m (w.heap.size + 1 + 1 + 1) (w.heap.size + 1 + 1) (w.heap.size + 1) X := by rw [← hWX]; exact ho_5 w m
    clear hWX
    generalize w.heap.size + 1 + 1 + 1 = c at hX ⊢
    generalize w.heap.size + 1 + 1 = d at hX ⊢
    generalize w.heap.size + 1 = bx at hX ⊢
    clear hmk
    have hge := hX.ge
    have hne := hX.ne
    have bD := below_next hX.bel (Nat.le_refl _) (drew_b X)
    have bxD := hX.box.next (drew_b X)
    have rsD := hX.res.next (drew_b X)
    have idD := hX.id.nx (drew_b X)
    obtain ⟨Y, hrun1, iY, hgY⟩ := run_copy_ints X.drew c m bU _ U (hX.ic.nx (drew_b X)) (hR.up.below bD hul) 3
    have x0 : X.drew.cell? ⟨bx, 0, none⟩ = some (.slice (some ⟨c, 0, none⟩) m m) := bxD.cell (j := 0) (by omega)
    have x3 : X.drew.cell? ⟨b, 3, none⟩ = some (.slice (some ⟨bU, 0, none⟩) m m) := keep_cell bD (Nat.le_refl _) (hR.cell rfl)
    have y0 := cell_turn x0 hgY (by omega)
    have y3 := cell_turn x3 hgY (by omega)
    have bY : Below w.heap.size w Y := below_far (B := w.heap.size) bD hgY (fun x e => by cases e; omega) (Nat.le_refl _)
    have bxY := bxD.grown hgY (by simp; omega)
    have rsY := rsD.grown hgY (by simp; omega)
    have idY := idD.grown hgY (by simp; omega)
    clear hX bD bxD rsD idD hgY
    go_wp2_with fail
    go_region_held3 (fun X : World => X.cell? ⟨bx, 0, none⟩ = some (.slice (some ⟨c, 0, none⟩) m m) ∧ X.cell? ⟨b, 3, none⟩ = some (.slice (some ⟨bU, 0, none⟩) m m))
      (first | exact ⟨y0, y3⟩ | exact ⟨x0, x3⟩ | assumption)
      (fail)
    clear x0 x3 y0 y3 hrun1
    have bD := below_next bY (Nat.le_refl _) (drew_b Y)
    have bxD := bxY.next (drew_b Y)
    have rsD := rsY.next (drew_b Y)
    have icD := iY.nx (drew_b Y)
    obtain ⟨Z, hrun1, iZ, hgZ⟩ := run_copy_ints Y.drew d m bV _ V (idY.nx (drew_b Y)) (hR.dn.below bD hvl) 3
    have x0 : Y.drew.cell? ⟨bx, 1, none⟩ = some (.slice (some ⟨d, 0, none⟩) m m) := bxD.cell (j := 1) (by omega)
    have x3 : Y.drew.cell? ⟨b, 4, none⟩ = some (.slice (some ⟨bV, 0, none⟩) m m) := keep_cell bD (Nat.le_refl _) (hR.cell rfl)
    have y0 := cell_turn x0 hgZ (by omega)
    have y3 := cell_turn x3 hgZ (by omega)
    have bZ : Below w.heap.size w Z := below_far (B := w.heap.size) bD hgZ (fun x e => by cases e; omega) (Nat.le_refl _)
    have bxZ := bxD.grown hgZ (by simp; omega)
    have rsZ := rsD.grown hgZ (by simp; omega)
    have icZ := icD.grown hgZ (by simp; omega)
    clear bD bxD rsD icD hgZ bY bxY rsY iY idY
    go_wp2_with fail
    go_region_held3 (fun X : World => X.cell? ⟨bx, 1, none⟩ = some (.slice (some ⟨d, 0, none⟩) m m) ∧ X.cell? ⟨b, 4, none⟩ = some (.slice (some ⟨bV, 0, none⟩) m m))
      (first | exact ⟨y0, y3⟩ | exact ⟨x0, x3⟩ | assumption)
      (fail)
    clear x0 x3 y0 y3 hrun1
    have x0 : Z.cell? ⟨bx, 0, none⟩ = some (.slice (some ⟨c, 0, none⟩) m m) := bxZ.cell (j := 0) (by omega)
    have x1 : Z.cell? ⟨bx, 1, none⟩ = some (.slice (some ⟨d, 0, none⟩) m m) := bxZ.cell (j := 1) (by omega)
    have r0 : Z.cell? ⟨w.heap.size, 0, none⟩ = some (.slice none 0 0) := rsZ.cell (j := 0) (by omega)
    have r1 : Z.cell? ⟨w.heap.size, 1, none⟩ = some (.slice none 0 0) := rsZ.cell (j := 1) (by omega)
    have z0 := rsZ.frozen 0
    have z1 := rsZ.frozen 1
    have hlx := bxZ.lt
    go_wp2
    have hB4 := ret_below bZ (s := w.heap.size) (Nat.le_refl _) (.slice (some ⟨c, 0, none⟩) m m) (.slice (some ⟨d, 0, none⟩) m m)
    have d0 : ((Z.setCell ⟨w.heap.size, 0, none⟩ (.slice (some ⟨c, 0, none⟩) m m)).setCell ⟨w.heap.size, 1, none⟩ (.slice (some ⟨d, 0, none⟩) m m)).cell? ⟨w.heap.size, 0, none⟩ = some (.slice (some ⟨c, 0, none⟩) m m) := by simp [go_sem, r0, r1]
    have d1 : ((Z.setCell ⟨w.heap.size, 0, none⟩ (.slice (some ⟨c, 0, none⟩) m m)).setCell ⟨w.heap.size, 1, none⟩ (.slice (some ⟨d, 0, none⟩) m m)).cell? ⟨w.heap.size, 1, none⟩ = some (.slice (some ⟨d, 0, none⟩) m m) := by simp [go_sem, r0, r1]
    have hU4 := icZ.of_block (ret_block (W := Z) (s := w.heap.size) (b := c) (.slice (some ⟨c, 0, none⟩) m m) (.slice (some ⟨d, 0, none⟩) m m) (by omega))
    have hV4 := iZ.of_block (ret_block (W := Z) (s := w.heap.size) (b := d) (.slice (some ⟨c, 0, none⟩) m m) (.slice (some ⟨d, 0, none⟩) m m) (by omega))
    have hs4 : w.heap.size + 2 ≤ ((Z.setCell ⟨w.heap.size, 0, none⟩ (.slice (some ⟨c, 0, none⟩) m m)).setCell ⟨w.heap.size, 1, none⟩ (.slice (some ⟨d, 0, none⟩) m m)).heap.size := by simp [World.setCell]; omega
    generalize ((Z.setCell ⟨w.heap.size, 0, none⟩ (.slice (some ⟨c, 0, none⟩) m m)).setCell ⟨w.heap.size, 1, none⟩ (.slice (some ⟨d, 0, none⟩) m m)) = W4 at hB4 d0 d1 hU4 hV4 hs4 ⊢
    clear bZ bxZ rsZ icZ iZ x0 x1 r0 r1 z0 z1
    simp [bodyPost, results, Tryz.results31, go_sem, d0, d1]
    exact ⟨c, d, by simp, by omega, by omega, by omega, hU4, hV4, hs4, hB4⟩

end Go.Proofs.YtokaechbmnbbiabGreat

/-
  WeightOf: the document's and the program's, each held against one plain function of the arcs.
-/
set_option linter.unusedVariables false
set_option linter.unusedSimpArgs false
namespace Go.Proofs.YtokaechbmnbbiabGreat
open Go.RowKit Go.Maps

theorem wf_small {p : Int} {F T G : Nat → Int} {n : Nat} (hp : inB p 1 24 = true) (h : arcsB p F T G n = true) : WfTo F T n := fun k hk => by
  have := (arcsB_each n h k hk).1
  simp [arcB, inB] at this hp
  exact ⟨WalkArith.wf_i64 (by omega), WalkArith.wf_i64 (by omega)⟩

end Go.Proofs.YtokaechbmnbbiabGreat

/-
  Length: the document's, held against one plain function of the arcs and the path.
-/
set_option linter.unusedVariables false
set_option linter.unusedSimpArgs false
namespace Go.Proofs.YtokaechbmnbbiabGreat
open Go.RowKit Go.Maps
attribute [local go_sem ↓] Go.wp_at_zero Go.wp_at_succ

def allIn (p : Int) (P : Nat → Int) : Nat → Bool
  | 0 => true
  | k + 1 => allIn p P k && inB (P k) 0 (p - 1)
def ps (n : Nat) (F T G P : Nat → Int) : Nat → Int
  | 0 => 0
  | k + 1 => min 1000000000000 (ps n F T G P k + lastW F T G (P k) (P (k + 1)) n)
def lenOf (p : Int) (n : Nat) (F T G : Nat → Int) (m : Nat) (P : Nat → Int) : Int :=
  if graphB p n F T G = true ∧ 1 ≤ m ∧ m ≤ 200 ∧ allIn p P m = true then ps n F T G P (m - 1) else 1000000000000

theorem allIn_each {p : Int} {P : Nat → Int} : ∀ m, allIn p P m = true → ∀ k, k < m → inB (P k) 0 (p - 1) = true
  | 0, _, k, hk => by omega
  | m + 1, h, k, hk => by
    simp [allIn] at h
    by_cases e : k = m
    · subst e; exact h.2
    · exact allIn_each m h.1 k (by omega)
theorem allIn_no {p : Int} {P : Nat → Int} {k : Nat} (h : inB (P k) 0 (p - 1) = false) : ∀ m, k < m → allIn p P m = false
  | 0, hk => by omega
  | m + 1, hk => by
    by_cases e : k = m
    · subst e; simp [allIn, h]
    · simp [allIn, allIn_no h m (by omega)]
theorem lastW_lo {p : Int} {F T G : Nat → Int} {n : Nat} (h : arcsB p F T G n = true) (a b : Int) : ∀ m, m ≤ n → 0 ≤ lastW F T G a b m ∧ lastW F T G a b m ≤ 1000000000000
  | 0, _ => by simp [lastW]
  | m + 1, hm => by
    unfold lastW
    split
    · have := (arcsB_each n h m (by omega)).1
      simp [arcB, inB] at this
      omega
    · exact lastW_lo h a b m (by omega)
theorem ps_lo {p : Int} {F T G : Nat → Int} {n : Nat} (h : arcsB p F T G n = true) (P : Nat → Int) : ∀ k, 0 ≤ ps n F T G P k ∧ ps n F T G P k ≤ 1000000000000
  | 0 => by simp [ps]
  | k + 1 => by
    have h1 := ps_lo h P k
    have h2 := lastW_lo h (P k) (P (k + 1)) n (Nat.le_refl _)
    unfold ps
    omega
theorem ps_far {p : Int} {F T G : Nat → Int} {n : Nat} (h : arcsB p F T G n = true) (P : Nat → Int) {j : Nat} (hj : lastW F T G (P j) (P (j + 1)) n = 1000000000000) : ∀ k, j < k → ps n F T G P k = 1000000000000
  | 0, hk => by omega
  | k + 1, hk => by
    have h1 := ps_lo h P k
    have h2 := lastW_lo h (P k) (P (k + 1)) n (Nat.le_refl _)
    unfold ps
    by_cases e : j = k
    · subst e; omega
    · rw [ps_far h P hj k (by omega)]; omega
theorem lenOf_far {p : Int} {n : Nat} {F T G : Nat → Int} {m : Nat} {P : Nat → Int} (h : ¬ (graphB p n F T G = true ∧ 1 ≤ m ∧ m ≤ 200 ∧ allIn p P m = true)) : lenOf p n F T G m P = 1000000000000 := by unfold lenOf; rw [if_neg h]

end Go.Proofs.YtokaechbmnbbiabGreat

/-
  Sums along edges upward, with no program in sight, and the rank where two of them meet.
-/
set_option linter.unusedVariables false
set_option linter.unusedSimpArgs false
namespace Go.Proofs.YtokaechbmnbbiabGreat

def cl (L H W : Nat → Int) (s : Nat) : Nat → (Nat → Int)
  | 0 => fun r => if r = s then 0 else 1000000000000
  | i + 1 => fun r => if r = (H i).toNat then min (cl L H W s i (H i).toNat) (min 1000000000000 (cl L H W s i (L i).toNat + W i)) else cl L H W s i r
theorem cl_in {m : Nat} {L H W : Nat → Int} (s : Nat) (hW : InF m W) : ∀ i, i ≤ m → ∀ r, 0 ≤ cl L H W s i r ∧ cl L H W s i r ≤ 1000000000000
  | 0, _, r => by unfold cl; split <;> omega
  | i + 1, hi, r => by
    have h1 := cl_in (L := L) (H := H) s hW i (by omega) (H i).toNat
    have h2 := cl_in (L := L) (H := H) s hW i (by omega) (L i).toNat
    have h3 := cl_in (L := L) (H := H) s hW i (by omega) r
    have h4 := hW i (by omega)
    unfold cl
    split <;> omega
theorem cl_far {k m : Nat} {L H W : Nat → Int} {s : Nat} (hs : s < k) (hH : ∀ i, i < m → 0 ≤ H i ∧ H i < (k : Int)) : ∀ i, i ≤ m → ∀ r, k ≤ r → cl L H W s i r = 1000000000000
  | 0, _, r, hr => by unfold cl; rw [if_neg (by omega)]
  | i + 1, hi, r, hr => by
    have h1 := hH i (by omega)
    unfold cl
    rw [if_neg (by omega)]
    exact cl_far hs hH i (by omega) r hr

def mt (A B : Nat → Int) : Nat → Int × Int
  | 0 => (-1, 1000000000000)
  | i + 1 => if min 1000000000000 (A i + B i) < (mt A B i).2 then ((i : Int), min 1000000000000 (A i + B i)) else mt A B i
theorem mt_yes {A B : Nat → Int} {i : Nat} {a b : Int} (h : mt A B i = (a, b)) (hl : min 1000000000000 (A i + B i) < b) : mt A B (i + 1) = ((i : Int), min 1000000000000 (A i + B i)) := by
  unfold mt; rw [h]; simp only; rw [if_pos hl]
theorem mt_no {A B : Nat → Int} {i : Nat} {a b : Int} (h : mt A B i = (a, b)) (hl : ¬ min 1000000000000 (A i + B i) < b) : mt A B (i + 1) = (a, b) := by
  unfold mt; rw [h]; simp only; rw [if_neg hl]
theorem mt_le (A B : Nat → Int) : ∀ i, (mt A B i).2 ≤ 1000000000000
  | 0 => by unfold mt; simp
  | i + 1 => by
    have := mt_le A B i
    unfold mt
    split
    · simp only; omega
    · exact this
theorem mt_far {A B : Nat → Int} {k : Nat} (hA : ∀ r, k ≤ r → A r = 1000000000000) (hB : ∀ r, 0 ≤ B r) : ∀ j, mt A B (k + j) = mt A B k
  | 0 => rfl
  | j + 1 => by
    have h := mt_far hA hB j
    have h1 := mt_le A B (k + j)
    have h2 := hA (k + j) (by omega)
    have h3 := hB (k + j)
    rw [← h, ← Nat.add_assoc]
    show (if _ then _ else _) = _
    rw [if_neg (by omega)]
def TOld (k m : Nat) (L H : Nat → Int) (u : Nat) (U : Nat → Int) (v : Nat) (V : Nat → Int) : Prop := edgesB (k : Int) m L H = true ∧ u = m ∧ v = m ∧ InF m U ∧ InF m V
theorem told_k {k m : Nat} {L H : Nat → Int} {u : Nat} {U : Nat → Int} {v : Nat} {V : Nat → Int} (h : TOld k m L H u U v V) : 1 ≤ k ∧ k ≤ 24 := by
  have := h.1
  simp [edgesB, inB] at this
  omega
theorem told_e {k m : Nat} {L H : Nat → Int} {u : Nat} {U : Nat → Int} {v : Nat} {V : Nat → Int} (h : TOld k m L H u U v V) : ∀ i, i < m → 0 ≤ L i ∧ L i < H i ∧ H i < (k : Int) := fun i hi => by
  have := h.1
  simp [edgesB] at this
  exact edgeB_in (edB_at m this.2 i hi)
def RIn (k : Nat) (r : Int) : Prop := 0 ≤ r ∧ r < (k : Int)
def wts (U V : Nat → Int) (b : Bool) : Nat → Int := if b then V else U
theorem wts_in {m : Nat} {U V : Nat → Int} (hU : InF m U) (hV : InF m V) (b : Bool) : InF m (wts U V b) := by cases b <;> assumption

open Classical in
noncomputable def mtg (k m : Nat) (L H : Nat → Int) (u : Nat) (U : Nat → Int) (v : Nat) (V : Nat → Int) (a b : Int) : Int × Int :=
  if TOld k m L H u U v V ∧ RIn k a ∧ RIn k b then mt (cl L H U a.toNat m) (cl L H V b.toNat m) k else (-1, 1000000000000)
theorem mtg_yes {k m : Nat} {L H : Nat → Int} {u : Nat} {U : Nat → Int} {v : Nat} {V : Nat → Int} {a b : Int} (h : TOld k m L H u U v V) (ha : RIn k a) (hb : RIn k b) : mtg k m L H u U v V a b = mt (cl L H U a.toNat m) (cl L H V b.toNat m) k := by unfold mtg; rw [if_pos ⟨h, ha, hb⟩]
theorem mtg_no {k m : Nat} {L H : Nat → Int} {u : Nat} {U : Nat → Int} {v : Nat} {V : Nat → Int} {a b : Int} (h : ¬ (TOld k m L H u U v V ∧ RIn k a ∧ RIn k b)) : mtg k m L H u U v V a b = (-1, 1000000000000) := by unfold mtg; rw [if_neg h]

end Go.Proofs.YtokaechbmnbbiabGreat

/-
  A climb is nought at its beginning and Far below it: the plain part.
-/
set_option linter.unusedVariables false
set_option linter.unusedSimpArgs false
namespace Go.Proofs.YtokaechbmnbbiabGreat

theorem cl_low {k m : Nat} {L H W : Nat → Int} {s : Nat} (hE : ∀ i, i < m → 0 ≤ L i ∧ L i < H i ∧ H i < (k : Int)) (hW : InF m W) : ∀ i, i ≤ m → ∀ r, r < s → cl L H W s i r = 1000000000000
  | 0, _, r, hr => by unfold cl; rw [if_neg (by omega)]
  | i + 1, hi, r, hr => by
    have h1 := hE i (by omega)
    have h2 := hW i (by omega)
    unfold cl
    split
    · rename_i e
      rw [cl_low hE hW i (by omega) _ (by omega), cl_low hE hW i (by omega) _ (by omega)]
      omega
    · exact cl_low hE hW i (by omega) r hr
theorem cl_zero {k m : Nat} {L H W : Nat → Int} {s : Nat} (hE : ∀ i, i < m → 0 ≤ L i ∧ L i < H i ∧ H i < (k : Int)) (hW : InF m W) : ∀ i, i ≤ m → cl L H W s i s = 0
  | 0, _ => by unfold cl; rw [if_pos rfl]
  | i + 1, hi => by
    have h1 := hE i (by omega)
    have h2 := hW i (by omega)
    unfold cl
    split
    · rename_i e
      rw [← e, cl_zero hE hW i (by omega), cl_low hE hW i (by omega) _ (by omega)]
      omega
    · exact cl_zero hE hW i (by omega)
end Go.Proofs.YtokaechbmnbbiabGreat

/-
  The shortest way, plainly: climbs over the edges of a right metric.
-/
set_option linter.unusedVariables false
set_option linter.unusedSimpArgs false
namespace Go.Proofs.YtokaechbmnbbiabGreat

section
variable {k m : Nat} {L H W : Nat → Int}
theorem ed_le {p : Int} (he : edB p L H m = true) {i j : Nat} (hij : i ≤ j) (hj : j < m) : L i ≤ L j := by
  by_cases e : i = j
  · subst e; exact Int.le_refl _
  · have := ed_rise m he j hj i (by omega)
    omega
theorem cl_down {s : Nat} (i : Nat) (r : Nat) : cl L H W s (i + 1) r ≤ cl L H W s i r := by
  rw [cl.eq_2]
  simp only
  split
  · rename_i e
    rw [← e]
    omega
  · exact Int.le_refl _
theorem cl_mono {s i r : Nat} : ∀ d, cl L H W s (i + d) r ≤ cl L H W s i r
  | 0 => Int.le_refl _
  | d + 1 => Int.le_trans (cl_down (i + d) r) (cl_mono d)
theorem cl_stay {s i r : Nat} (he : edB (k : Int) L H m = true) (hE : ∀ i, i < m → 0 ≤ L i ∧ L i < H i ∧ H i < (k : Int)) (hr : (r : Int) ≤ L i) : ∀ d, i + d ≤ m → cl L H W s (i + d) r = cl L H W s i r
  | 0, _ => rfl
  | d + 1, hd => by
    have h1 := cl_stay (s := s) he hE hr d (by omega)
    have h2 := ed_le he (show i ≤ i + d by omega) (by omega)
    have h3 := hE (i + d) (by omega)
    show cl L H W s ((i + d) + 1) r = _
    rw [cl.eq_2]
    simp only
    rw [if_neg (by omega), h1]
theorem cl_fix {s : Nat} (he : edB (k : Int) L H m = true) (hE : ∀ i, i < m → 0 ≤ L i ∧ L i < H i ∧ H i < (k : Int)) {i : Nat} (hi : i < m) : cl L H W s m (H i).toNat ≤ cl L H W s m (L i).toNat + W i := by
  have h1 : cl L H W s m (L i).toNat = cl L H W s i (L i).toNat := by
    have := cl_stay (s := s) (W := W) he hE (i := i) (r := (L i).toNat) (by have := hE i hi; omega) (m - i) (by omega)
    rwa [show i + (m - i) = m by omega] at this
  have h2 : cl L H W s m (H i).toNat ≤ cl L H W s (i + 1) (H i).toNat := by
    have := cl_mono (L := L) (H := H) (W := W) (s := s) (i := i + 1) (r := (H i).toNat) (m - (i + 1))
    rwa [show i + 1 + (m - (i + 1)) = m by omega] at this
  have h3 : cl L H W s (i + 1) (H i).toNat ≤ cl L H W s i (L i).toNat + W i := by
    rw [cl.eq_2]
    simp only
    rw [if_pos trivial]
    omega
  omega
theorem cl_then {s t : Nat} (he : edB (k : Int) L H m = true) (hE : ∀ i, i < m → 0 ≤ L i ∧ L i < H i ∧ H i < (k : Int)) (hW : InF m W) : ∀ i, i ≤ m → ∀ r, cl L H W s m r ≤ cl L H W s m t + cl L H W t i r
  | 0, _, r => by
    have h1 := cl_in (L := L) (H := H) s hW m (Nat.le_refl _) r
    have h2 := cl_in (L := L) (H := H) s hW m (Nat.le_refl _) t
    rw [cl.eq_1 L H W t]
    simp only
    split
    · rename_i e; subst e; omega
    · omega
  | i + 1, hi, r => by
    have ih := cl_then he hE hW (s := s) (t := t) i (by omega)
    have h1 := cl_in (L := L) (H := H) s hW m (Nat.le_refl _) r
    have h2 := cl_in (L := L) (H := H) s hW m (Nat.le_refl _) t
    rw [cl.eq_2 L H W t]
    simp only
    split
    · rename_i e
      have a := ih (H i).toNat
      have b := ih (L i).toNat
      have c := cl_fix (s := s) (W := W) he hE (i := i) (by omega)
      subst e
      omega
    · exact ih r
theorem cl_first {x : Nat} (he : edB (k : Int) L H m = true) (hE : ∀ i, i < m → 0 ≤ L i ∧ L i < H i ∧ H i < (k : Int)) (hW : InF m W) : ∀ i, i ≤ m → ∀ r, r ≠ x → cl L H W x i r < 1000000000000 → ∃ j, j < m ∧ (L j).toNat = x ∧ W j + cl L H W (H j).toNat m r ≤ cl L H W x i r
  | 0, _, r, hr, h => by
    rw [cl.eq_1 L H W x] at h
    simp only at h
    rw [if_neg hr] at h
    omega
  | i + 1, hi, r, hr, h => by
    have ih := cl_first he hE hW (x := x) i (by omega)
    rw [cl.eq_2 L H W x] at h ⊢
    simp only at h ⊢
    split
    · rename_i e
      rw [if_pos e] at h
      subst e
      by_cases hc : cl L H W x i (H i).toNat ≤ min 1000000000000 (cl L H W x i (L i).toNat + W i)
      · obtain ⟨j, hj, e1, e2⟩ := ih (H i).toNat hr (by omega)
        exact ⟨j, hj, e1, by omega⟩
      · by_cases hx : (L i).toNat = x
        · have z := cl_zero (s := (H i).toNat) hE hW m (Nat.le_refl _)
          have y := cl_in (L := L) (H := H) x hW i (by omega) (L i).toNat
          exact ⟨i, by omega, hx, by omega⟩
        · have hw := hW i (by omega)
          obtain ⟨j, hj, e1, e2⟩ := ih (L i).toNat hx (by omega)
          have c := cl_fix (s := (H j).toNat) (W := W) he hE (i := i) (by omega)
          exact ⟨j, hj, e1, by omega⟩
    · rename_i e
      rw [if_neg e] at h
      exact ih r hr h
end

theorem mt_leS {A B : Nat → Int} : ∀ k, (mt A B k).2 ≤ 1000000000000 ∧ ∀ r, r < k → (mt A B k).2 ≤ A r + B r
  | 0 => ⟨by simp [mt], fun r hr => by omega⟩
  | k + 1 => by
    obtain ⟨h1, h2⟩ := mt_leS (A := A) (B := B) k
    unfold mt
    split
    · rename_i h
      refine ⟨by simp only; omega, fun r hr => ?_⟩
      by_cases e : r = k
      · subst e; simp only; omega
      · have := h2 r (by omega); simp only; omega
    · rename_i h
      refine ⟨h1, fun r hr => ?_⟩
      by_cases e : r = k
      · subst e; omega
      · exact h2 r (by omega)
theorem mt_atS {A B : Nat → Int} : ∀ k, (mt A B k).2 < 1000000000000 → ∃ r, r < k ∧ (mt A B k).2 = A r + B r
  | 0, h => by simp [mt] at h
  | k + 1, h => by
    unfold mt at h ⊢
    split
    · rename_i hl
      rw [if_pos hl] at h
      simp only at h ⊢
      exact ⟨k, by omega, by omega⟩
    · rename_i hl
      rw [if_neg hl] at h
      obtain ⟨r, hr, e⟩ := mt_atS k h
      exact ⟨r, by omega, e⟩

section
variable {k m : Nat} {L H U V : Nat → Int}
theorem way_down {a e r : Nat} (he : edB (k : Int) L H m = true) (hE : ∀ i, i < m → 0 ≤ L i ∧ L i < H i ∧ H i < (k : Int)) (hV : InF m V) (h : e < m) : cl L H V (L e).toNat m r ≤ V e + cl L H V (H e).toNat m r := by
  have h1 := cl_then (s := (L e).toNat) (t := (H e).toNat) he hE hV m (Nat.le_refl _) r
  have h2 := cl_fix (s := (L e).toNat) (W := V) he hE h
  have h3 := cl_zero (s := (L e).toNat) hE hV m (Nat.le_refl _)
  omega
theorem way_up {a : Nat} (hC : Chd (k : Int) m L H) (he : edB (k : Int) L H m = true) (hE : ∀ i, i < m → 0 ≤ L i ∧ L i < H i ∧ H i < (k : Int)) (hU : InF m U) (hV : InF m V) (hT : ∀ t, TOk m L H t → okT U V t) :
    ∀ d e r, e < m → r < k → k - (L e).toNat ≤ d → (mt (cl L H U a m) (cl L H V (H e).toNat m) k).2 ≤ cl L H U a m r + cl L H V (L e).toNat m r + U e
  | 0, e, r, h, hr, hd => by have := hE e h; omega
  | d + 1, e, r, h, hr, hd => by
    have he1 := hE e h
    obtain ⟨f1, f2⟩ := mt_leS (A := cl L H U a m) (B := cl L H V (H e).toNat m) k
    have u1 := hU e h
    have u2 := cl_in (L := L) (H := H) a hU m (Nat.le_refl _) r
    have v2 := cl_in (L := L) (H := H) (L e).toNat hV m (Nat.le_refl _) r
    by_cases hrx : r = (L e).toNat
    · have a1 := cl_fix (s := a) (W := U) he hE h
      have a2 := f2 (H e).toNat (by omega)
      have a3 := cl_zero (s := (H e).toNat) hE hV m (Nat.le_refl _)
      rw [hrx]
      rw [hrx] at v2
      omega
    by_cases hf : cl L H V (L e).toNat m r < 1000000000000
    rotate_left
    · omega
    obtain ⟨j, hj, e1, e2⟩ := cl_first he hE hV m (Nat.le_refl _) r hrx hf
    have hj1 := hE j hj
    have hje : L j = L e := by omega
    have w1 := hV j hj
    by_cases hxy : H j = H e
    · have a1 := f2 r hr
      rw [hxy] at e2
      omega
    by_cases hlt : H j < H e
    · have hje2 : j < e := by
        rcases Nat.lt_trichotomy j e with q | q | q
        · exact q
        · subst q; omega
        · have := ed_rise m he j hj e q; omega
      have hk := tok_of he hC.2 hje2 h hje.symm
      have ht := (hT _ hk).1
      obtain ⟨_, _, q3, _, q5, q6, q7⟩ := hk
      simp only at q3 q6 q7
      unfold upT at ht
      simp only at ht
      have ih := way_up (a := a) hC he hE hU hV hT d _ r q3 hr (by rw [q6]; omega)
      rw [q6, q7] at ih
      omega
    · have hje2 : e < j := by
        rcases Nat.lt_trichotomy j e with q | q | q
        · have := ed_rise m he e h j q; omega
        · subst q; omega
        · exact q
      have hk := tok_of he hC.2 hje2 hj hje
      have ht := (hT _ hk).2
      obtain ⟨_, _, q3, _, q5, q6, q7⟩ := hk
      simp only at q3 q6 q7
      unfold dnT at ht
      simp only at ht
      have a1 := way_down (a := a) (r := r) he hE hV q3
      rw [q6, q7] at a1
      have a2 := f2 r hr
      omega
end

end Go.Proofs.YtokaechbmnbbiabGreat
