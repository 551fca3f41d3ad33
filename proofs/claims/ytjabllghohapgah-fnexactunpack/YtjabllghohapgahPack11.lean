/-
  Helpers, merged: RoomO, CusI, Weigh, UnM.
-/
import Derived.Test.YtjabllghohapgahPack9
import Derived.Test.YtjabllghohapgahPack2
import Derived.Laws.CopyOwn
import Derived.Test.YtjabllghohapgahPack8
import Derived.Test.YtjabllghohapgahPack10
import Derived.Test.YtjabllghohapgahPack1
import Derived.Test.YtjabllghohapgahPack5
/-
  The program's room: its lists handed out.
-/
set_option linter.unusedVariables false
set_option linter.unusedSimpArgs false
namespace Go.Proofs.Ytjabllghohapgah
open Go.RowKit Go.Deep Go.Joins Go.Maps
attribute [local go_sem ↓] Go.wp_at_zero Go.wp_at_succ

theorem drew_b (X : World) : Below X.heap.size X X.drew := (Below.refl _ _).drew
theorem me2_at (A : World) (b : Nat) (x y : Value) (h : b = A.heap.size) : VHas (A.alloc (.cells #[x, y] 35)) b 35 2 (me2 x y) := by subst h; exact me2_new A x y
theorem run_copy_ints (w : World) (c m b : Nat) (f h : Nat → Int) (hc : IHas w c m f) (hb : IHas w b m h) (ty : TypeId) :
    ∃ w', (Builtin.copy_ #[22, 22] ty #[.slice (some ⟨c, 0, none⟩) m m, .slice (some ⟨b, 0, none⟩) m m]).run Try.prog w = .ok (goInt m) w' ∧ IHas w' c m h ∧ w.grownBy w' (some c) := by
  have hsz : (Try.prog.info? 2).map (·.size) = some 1 := by kernel_rfl
  obtain ⟨cur, hh, hs, hcu⟩ := hc
  have hr := run_copy_row (P := Try.prog) w 22 22 ty 2 c 0 m m ⟨b, 0, none⟩ m m cur 2 (icells h m) Try.underlying22 hsz hh (by rw [icells_len]; simp) (fun j v hv => by
    by_cases hj : j < m
    · rw [icells_at hj] at hv
      simp at hv
      subst hv
      have : (⟨b, 0, none⟩ : Addr).add j = ⟨b, j, none⟩ := by unfold Addr.add; split <;> simp_all
      rw [this]
      exact hb.cell hj
    · rw [List.getElem?_eq_none (by rw [icells_len]; omega)] at hv
      cases hv) (by rw [icells_len]; omega) (fun v hv => by
    simp [icells] at hv
    obtain ⟨j, _, rfl⟩ := hv
    rfl)
  rw [icells_len] at hr
  refine ⟨_, hr, ?_, gr_setRow w c _⟩
  refine ⟨_, setRow_heap w c cur _ _ _ hh, ?_, fun j hj => ?_⟩
  · simp [icells]
  · simp only [List.take_zero, List.nil_append, List.getElem?_toArray]
    rw [List.getElem?_append_left (by rw [icells_len]; omega), icells_at hj]

/-- The new lists, their box and the result's. -/
structure HO (w : World) (m c d bx : Nat) (X : World) : Prop where
  bel : Below w.heap.size w X
  box : VHas X bx 35 2 (me2 (.slice (some ⟨c, 0, none⟩) m m) (.slice (some ⟨d, 0, none⟩) m m))
  res : VHas X w.heap.size 35 2 (me2 (.slice none 0 0) (.slice none 0 0))
  ic : IHas X c m (fun _ => 0)
  id : IHas X d m (fun _ => 0)
  ne : c ≠ d ∧ c ≠ bx ∧ d ≠ bx
  ge : w.heap.size < c ∧ w.heap.size < d ∧ w.heap.size < bx
theorem ho_0 (w : World) (m : Nat) : HO w m (w.heap.size + 1) (w.heap.size + 1 + 1) (w.heap.size + 1 + 1 + 1) (((((w.alloc (.cells #[.slice none 0 0, .slice none 0 0] 35)).alloc (.cells (madeCells #[.int .i64 0] m) 2)).alloc (.cells (madeCells #[.int .i64 0] m) 2)).alloc (.cells #[.slice (some ⟨w.heap.size + 1, 0, none⟩) m m, .slice (some ⟨w.heap.size + 1 + 1, 0, none⟩) m m] 35)).drew) := by
  refine ⟨(((((Below.refl _ w).alloc (Nat.le_refl _) _).alloc (by simp) _).alloc (by simp; omega) _).alloc (by simp; omega) _).drew, ?_, ?_, ?_, ?_, by omega, by omega⟩
  · repeat (first | (refine me2_at _ _ _ _ ?_; simp; done) | refine VHas.alloc ?_ _ | refine VHas.next ?_ (drew_b _))
  · repeat (first | (refine me2_at _ _ _ _ ?_; simp; done) | (refine me2_at _ _ _ _ ?_; rfl) | refine VHas.alloc ?_ _ | refine VHas.next ?_ (drew_b _))
  · repeat (first | (refine made_at _ _ _ ?_; simp; done) | refine IHas.al ?_ _ | refine IHas.nx ?_ (drew_b _))
  · repeat (first | (refine made_at _ _ _ ?_; simp; done) | refine IHas.al ?_ _ | refine IHas.nx ?_ (drew_b _))
theorem ho_1 (w : World) (m : Nat) : HO w m (w.heap.size + 1) (w.heap.size + 1 + 1 + 1) (w.heap.size + 1 + 1) (((((w.alloc (.cells #[.slice none 0 0, .slice none 0 0] 35)).alloc (.cells (madeCells #[.int .i64 0] m) 2)).alloc (.cells #[.slice (some ⟨w.heap.size + 1, 0, none⟩) m m, .slice (some ⟨w.heap.size + 1 + 1 + 1, 0, none⟩) m m] 35)).alloc (.cells (madeCells #[.int .i64 0] m) 2)).drew) := by
  refine ⟨(((((Below.refl _ w).alloc (Nat.le_refl _) _).alloc (by simp) _).alloc (by simp; omega) _).alloc (by simp; omega) _).drew, ?_, ?_, ?_, ?_, by omega, by omega⟩
  · repeat (first | (refine me2_at _ _ _ _ ?_; simp; done) | refine VHas.alloc ?_ _ | refine VHas.next ?_ (drew_b _))
  · repeat (first | (refine me2_at _ _ _ _ ?_; simp; done) | (refine me2_at _ _ _ _ ?_; rfl) | refine VHas.alloc ?_ _ | refine VHas.next ?_ (drew_b _))
  · repeat (first | (refine made_at _ _ _ ?_; simp; done) | refine IHas.al ?_ _ | refine IHas.nx ?_ (drew_b _))
  · repeat (first | (refine made_at _ _ _ ?_; simp; done) | refine IHas.al ?_ _ | refine IHas.nx ?_ (drew_b _))
theorem ho_2 (w : World) (m : Nat) : HO w m (w.heap.size + 1 + 1) (w.heap.size + 1) (w.heap.size + 1 + 1 + 1) (((((w.alloc (.cells #[.slice none 0 0, .slice none 0 0] 35)).alloc (.cells (madeCells #[.int .i64 0] m) 2)).alloc (.cells (madeCells #[.int .i64 0] m) 2)).alloc (.cells #[.slice (some ⟨w.heap.size + 1 + 1, 0, none⟩) m m, .slice (some ⟨w.heap.size + 1, 0, none⟩) m m] 35)).drew) := by
  refine ⟨(((((Below.refl _ w).alloc (Nat.le_refl _) _).alloc (by simp) _).alloc (by simp; omega) _).alloc (by simp; omega) _).drew, ?_, ?_, ?_, ?_, by omega, by omega⟩
  · repeat (first | (refine me2_at _ _ _ _ ?_; simp; done) | refine VHas.alloc ?_ _ | refine VHas.next ?_ (drew_b _))
  · repeat (first | (refine me2_at _ _ _ _ ?_; simp; done) | (refine me2_at _ _ _ _ ?_; rfl) | refine VHas.alloc ?_ _ | refine VHas.next ?_ (drew_b _))
  · repeat (first | (refine made_at _ _ _ ?_; simp; done) | refine IHas.al ?_ _ | refine IHas.nx ?_ (drew_b _))
  · repeat (first | (refine made_at _ _ _ ?_; simp; done) | refine IHas.al ?_ _ | refine IHas.nx ?_ (drew_b _))
theorem ho_3 (w : World) (m : Nat) : HO w m (w.heap.size + 1 + 1 + 1) (w.heap.size + 1) (w.heap.size + 1 + 1) (((((w.alloc (.cells #[.slice none 0 0, .slice none 0 0] 35)).alloc (.cells (madeCells #[.int .i64 0] m) 2)).alloc (.cells #[.slice (some ⟨w.heap.size + 1 + 1 + 1, 0, none⟩) m m, .slice (some ⟨w.heap.size + 1, 0, none⟩) m m] 35)).alloc (.cells (madeCells #[.int .i64 0] m) 2)).drew) := by
  refine ⟨(((((Below.refl _ w).alloc (Nat.le_refl _) _).alloc (by simp) _).alloc (by simp; omega) _).alloc (by simp; omega) _).drew, ?_, ?_, ?_, ?_, by omega, by omega⟩
  · repeat (first | (refine me2_at _ _ _ _ ?_; simp; done) | refine VHas.alloc ?_ _ | refine VHas.next ?_ (drew_b _))
  · repeat (first | (refine me2_at _ _ _ _ ?_; simp; done) | (refine me2_at _ _ _ _ ?_; rfl) | refine VHas.alloc ?_ _ | refine VHas.next ?_ (drew_b _))
  · repeat (first | (refine made_at _ _ _ ?_; simp; done) | refine IHas.al ?_ _ | refine IHas.nx ?_ (drew_b _))
  · repeat (first | (refine made_at _ _ _ ?_; simp; done) | refine IHas.al ?_ _ | refine IHas.nx ?_ (drew_b _))
theorem ho_4 (w : World) (m : Nat) : HO w m (w.heap.size + 1 + 1) (w.heap.size + 1 + 1 + 1) (w.heap.size + 1) (((((w.alloc (.cells #[.slice none 0 0, .slice none 0 0] 35)).alloc (.cells #[.slice (some ⟨w.heap.size + 1 + 1, 0, none⟩) m m, .slice (some ⟨w.heap.size + 1 + 1 + 1, 0, none⟩) m m] 35)).alloc (.cells (madeCells #[.int .i64 0] m) 2)).alloc (.cells (madeCells #[.int .i64 0] m) 2)).drew) := by
  refine ⟨(((((Below.refl _ w).alloc (Nat.le_refl _) _).alloc (by simp) _).alloc (by simp; omega) _).alloc (by simp; omega) _).drew, ?_, ?_, ?_, ?_, by omega, by omega⟩
  · repeat (first | (refine me2_at _ _ _ _ ?_; simp; done) | refine VHas.alloc ?_ _ | refine VHas.next ?_ (drew_b _))
  · repeat (first | (refine me2_at _ _ _ _ ?_; simp; done) | (refine me2_at _ _ _ _ ?_; rfl) | refine VHas.alloc ?_ _ | refine VHas.next ?_ (drew_b _))
  · repeat (first | (refine made_at _ _ _ ?_; simp; done) | refine IHas.al ?_ _ | refine IHas.nx ?_ (drew_b _))
  · repeat (first | (refine made_at _ _ _ ?_; simp; done) | refine IHas.al ?_ _ | refine IHas.nx ?_ (drew_b _))
theorem ho_5 (w : World) (m : Nat) : HO w m (w.heap.size + 1 + 1 + 1) (w.heap.size + 1 + 1) (w.heap.size + 1) (((((w.alloc (.cells #[.slice none 0 0, .slice none 0 0] 35)).alloc (.cells #[.slice (some ⟨w.heap.size + 1 + 1 + 1, 0, none⟩) m m, .slice (some ⟨w.heap.size + 1 + 1, 0, none⟩) m m] 35)).alloc (.cells (madeCells #[.int .i64 0] m) 2)).alloc (.cells (madeCells #[.int .i64 0] m) 2)).drew) := by
  refine ⟨(((((Below.refl _ w).alloc (Nat.le_refl _) _).alloc (by simp) _).alloc (by simp; omega) _).alloc (by simp; omega) _).drew, ?_, ?_, ?_, ?_, by omega, by omega⟩
  · repeat (first | (refine me2_at _ _ _ _ ?_; simp; done) | refine VHas.alloc ?_ _ | refine VHas.next ?_ (drew_b _))
  · repeat (first | (refine me2_at _ _ _ _ ?_; simp; done) | (refine me2_at _ _ _ _ ?_; rfl) | refine VHas.alloc ?_ _ | refine VHas.next ?_ (drew_b _))
  · repeat (first | (refine made_at _ _ _ ?_; simp; done) | refine IHas.al ?_ _ | refine IHas.nx ?_ (drew_b _))
  · repeat (first | (refine made_at _ _ _ ?_; simp; done) | refine IHas.al ?_ _ | refine IHas.nx ?_ (drew_b _))

set_option maxRecDepth 100000 in
set_option maxHeartbeats 4000000 in
theorem handOut_any (w0 : World) (k m : Nat) (P L H : Nat → Int) (eo : Option Addr) (ecap b g rcap bm bU bV : Nat) (U V : Nat → Int) (hm : m ≤ 1000) (w : World) (hR : Room w0 k P eo m ecap L H b g rcap bm bU bV U V w) :
    Calls Try.prog 66 #[.pointer (some ⟨b, 0, none⟩)] w fun e w' => ∃ c d, e = .returned (.agg #[.slice (some ⟨c, 0, none⟩) m m, .slice (some ⟨d, 0, none⟩) m m]) ∧ w.heap.size ≤ c ∧ w.heap.size ≤ d ∧ c ≠ d ∧ IHas w' c m U ∧ IHas w' d m V ∧ w.heap.size + 2 ≤ w'.heap.size ∧ Below w.heap.size w w' := by
  have hmk := make_ints m (by omega)
  have hbl : b < w.heap.size := (Array.getElem?_eq_some_iff.1 hR.box).1
  have hul := hR.up.lt
  have hvl := hR.dn.lt
  have c0 : w.cell? ⟨b, 0, none⟩ = some (.slice eo m ecap) := hR.cell rfl
  go_enter Try.func66, Try.ntmps66
  go_wp2_with fail
  go_region_held3 (fun X : World => X.cell? ⟨b, 0, none⟩ = some (.slice eo m ecap))
    (first | assumption | (refine keep_cell (B := w.heap.size) (W := w) ?_ (Nat.le_refl _) c0; repeat (first | exact Below.refl _ _ | refine Below.alloc ?_ (by simp <;> omega) _ | refine Below.setCell ?_ (by simp <;> omega) _ | refine Below.drew ?_)))
    (fail)
  · generalize hWX : World.drew _ = X
    have hX : HO w m (w.heap.size + 1) (w.heap.size + 1 + 1) (w.heap.size + 1 + 1 + 1) X := by rw [← hWX]; exact ho_0 w m
    clear hWX
    generalize w.heap.size + 1 + 1 + 1 = bx at hX ⊢
    generalize w.heap.size + 1 + 1 = d at hX ⊢
    generalize w.heap.size + 1 = c at hX ⊢
    clear hmk
    have hge := hX.ge
    have hne := hX.ne
    have bD := below_next hX.bel (Nat.le_refl _) (drew_b X)
    have bxD := hX.box.next (drew_b X)
    have rsD := hX.res.next (drew_b X)
    have idD := hX.id.nx (drew_b X)
    obtain ⟨Y, hrun1, iY, hgY⟩ := run_copy_ints X.drew c m bU _ U (hX.ic.nx (drew_b X)) (hR.up.below bD hul) 3
    have x0 : X.drew.cell? ⟨bx, 0, none⟩ = some (.slice (some ⟨c, 0, none⟩) m m) := bxD.cell (j := 0) (by omega)
    have x3 : X.drew.cell? ⟨b, 3, none⟩ = some (.slice (some ⟨bU, 0, none⟩) m m) := keep_cell bD (Nat.le_refl _) (hR.cell rfl)
    have y0 := cell_turn x0 hgY (by omega)
    have y3 := cell_turn x3 hgY (by omega)
    have bY : Below w.heap.size w Y := below_far (B := w.heap.size) bD hgY (fun x e => by cases e; omega) (Nat.le_refl _)
    have bxY := bxD.grown hgY (by simp; omega)
    have rsY := rsD.grown hgY (by simp; omega)
    have idY := idD.grown hgY (by simp; omega)
    clear hX bD bxD rsD idD hgY
    go_wp2_with fail
    go_region_held3 (fun X : World => X.cell? ⟨bx, 0, none⟩ = some (.slice (some ⟨c, 0, none⟩) m m) ∧ X.cell? ⟨b, 3, none⟩ = some (.slice (some ⟨bU, 0, none⟩) m m))
      (first | exact ⟨y0, y3⟩ | exact ⟨x0, x3⟩ | assumption)
      (fail)
    clear x0 x3 y0 y3 hrun1
    have bD := below_next bY (Nat.le_refl _) (drew_b Y)
    have bxD := bxY.next (drew_b Y)
    have rsD := rsY.next (drew_b Y)
    have icD := iY.nx (drew_b Y)
    obtain ⟨Z, hrun1, iZ, hgZ⟩ := run_copy_ints Y.drew d m bV _ V (idY.nx (drew_b Y)) (hR.dn.below bD hvl) 3
    have x0 : Y.drew.cell? ⟨bx, 1, none⟩ = some (.slice (some ⟨d, 0, none⟩) m m) := bxD.cell (j := 1) (by omega)
    have x3 : Y.drew.cell? ⟨b, 4, none⟩ = some (.slice (some ⟨bV, 0, none⟩) m m) := keep_cell bD (Nat.le_refl _) (hR.cell rfl)
    have y0 := cell_turn x0 hgZ (by omega)
    have y3 := cell_turn x3 hgZ (by omega)
    have bZ : Below w.heap.size w Z := below_far (B := w.heap.size) bD hgZ (fun x e => by cases e; omega) (Nat.le_refl _)
    have bxZ := bxD.grown hgZ (by simp; omega)
    have rsZ := rsD.grown hgZ (by simp; omega)
    have icZ := icD.grown hgZ (by simp; omega)
    clear bD bxD rsD icD hgZ bY bxY rsY iY idY
    go_wp2_with fail
    go_region_held3 (fun X : World => X.cell? ⟨bx, 1, none⟩ = some (.slice (some ⟨d, 0, none⟩) m m) ∧ X.cell? ⟨b, 4, none⟩ = some (.slice (some ⟨bV, 0, none⟩) m m))
      (first | exact ⟨y0, y3⟩ | exact ⟨x0, x3⟩ | assumption)
      (fail)
    clear x0 x3 y0 y3 hrun1
    have x0 : Z.cell? ⟨bx, 0, none⟩ = some (.slice (some ⟨c, 0, none⟩) m m) := bxZ.cell (j := 0) (by omega)
    have x1 : Z.cell? ⟨bx, 1, none⟩ = some (.slice (some ⟨d, 0, none⟩) m m) := bxZ.cell (j := 1) (by omega)
    have r0 : Z.cell? ⟨w.heap.size, 0, none⟩ = some (.slice none 0 0) := rsZ.cell (j := 0) (by omega)
    have r1 : Z.cell? ⟨w.heap.size, 1, none⟩ = some (.slice none 0 0) := rsZ.cell (j := 1) (by omega)
    have z0 := rsZ.frozen 0
    have z1 := rsZ.frozen 1
    have hlx := bxZ.lt
    go_wp2
    have hB4 := ret_below bZ (s := w.heap.size) (Nat.le_refl _) (.slice (some ⟨c, 0, none⟩) m m) (.slice (some ⟨d, 0, none⟩) m m)
    have d0 : ((Z.setCell ⟨w.heap.size, 0, none⟩ (.slice (some ⟨c, 0, none⟩) m m)).setCell ⟨w.heap.size, 1, none⟩ (.slice (some ⟨d, 0, none⟩) m m)).cell? ⟨w.heap.size, 0, none⟩ = some (.slice (some ⟨c, 0, none⟩) m m) := by simp [go_sem, r0, r1]
    have d1 : ((Z.setCell ⟨w.heap.size, 0, none⟩ (.slice (some ⟨c, 0, none⟩) m m)).setCell ⟨w.heap.size, 1, none⟩ (.slice (some ⟨d, 0, none⟩) m m)).cell? ⟨w.heap.size, 1, none⟩ = some (.slice (some ⟨d, 0, none⟩) m m) := by simp [go_sem, r0, r1]
    have hU4 := icZ.of_block (ret_block (W := Z) (s := w.heap.size) (b := c) (.slice (some ⟨c, 0, none⟩) m m) (.slice (some ⟨d, 0, none⟩) m m) (by omega))
    have hV4 := iZ.of_block (ret_block (W := Z) (s := w.heap.size) (b := d) (.slice (some ⟨c, 0, none⟩) m m) (.slice (some ⟨d, 0, none⟩) m m) (by omega))
    have hs4 : w.heap.size + 2 ≤ ((Z.setCell ⟨w.heap.size, 0, none⟩ (.slice (some ⟨c, 0, none⟩) m m)).setCell ⟨w.heap.size, 1, none⟩ (.slice (some ⟨d, 0, none⟩) m m)).heap.size := by simp [World.setCell]; omega
    generalize ((Z.setCell ⟨w.heap.size, 0, none⟩ (.slice (some ⟨c, 0, none⟩) m m)).setCell ⟨w.heap.size, 1, none⟩ (.slice (some ⟨d, 0, none⟩) m m)) = W4 at hB4 d0 d1 hU4 hV4 hs4 ⊢
    clear bZ bxZ rsZ icZ iZ x0 x1 r0 r1 z0 z1
    simp [bodyPost, results, Try.results66, go_sem, d0, d1]
    exact ⟨c, d, by simp, by omega, by omega, by omega, hU4, hV4, hs4, hB4⟩
  · generalize hWX : World.drew _ = X
    have hX : HO w m (w.heap.size + 1) (w.heap.size + 1 + 1 + 1) (w.heap.size + 1 + 1) X := by rw [← hWX]; exact ho_1 w m
    clear hWX
    generalize w.heap.size + 1 + 1 + 1 = d at hX ⊢
    generalize w.heap.size + 1 + 1 = bx at hX ⊢
    generalize w.heap.size + 1 = c at hX ⊢
    clear hmk
    have hge := hX.ge
    have hne := hX.ne
    have bD := below_next hX.bel (Nat.le_refl _) (drew_b X)
    have bxD := hX.box.next (drew_b X)
    have rsD := hX.res.next (drew_b X)
    have idD := hX.id.nx (drew_b X)
    obtain ⟨Y, hrun1, iY, hgY⟩ := run_copy_ints X.drew c m bU _ U (hX.ic.nx (drew_b X)) (hR.up.below bD hul) 3
    have x0 : X.drew.cell? ⟨bx, 0, none⟩ = some (.slice (some ⟨c, 0, none⟩) m m) := bxD.cell (j := 0) (by omega)
    have x3 : X.drew.cell? ⟨b, 3, none⟩ = some (.slice (some ⟨bU, 0, none⟩) m m) := keep_cell bD (Nat.le_refl _) (hR.cell rfl)
    have y0 := cell_turn x0 hgY (by omega)
    have y3 := cell_turn x3 hgY (by omega)
    have bY : Below w.heap.size w Y := below_far (B := w.heap.size) bD hgY (fun x e => by cases e; omega) (Nat.le_refl _)
    have bxY := bxD.grown hgY (by simp; omega)
    have rsY := rsD.grown hgY (by simp; omega)
    have idY := idD.grown hgY (by simp; omega)
    clear hX bD bxD rsD idD hgY
    go_wp2_with fail
    go_region_held3 (fun X : World => X.cell? ⟨bx, 0, none⟩ = some (.slice (some ⟨c, 0, none⟩) m m) ∧ X.cell? ⟨b, 3, none⟩ = some (.slice (some ⟨bU, 0, none⟩) m m))
      (first | exact ⟨y0, y3⟩ | exact ⟨x0, x3⟩ | assumption)
      (fail)
    clear x0 x3 y0 y3 hrun1
    have bD := below_next bY (Nat.le_refl _) (drew_b Y)
    have bxD := bxY.next (drew_b Y)
    have rsD := rsY.next (drew_b Y)
    have icD := iY.nx (drew_b Y)
    obtain ⟨Z, hrun1, iZ, hgZ⟩ := run_copy_ints Y.drew d m bV _ V (idY.nx (drew_b Y)) (hR.dn.below bD hvl) 3
    have x0 : Y.drew.cell? ⟨bx, 1, none⟩ = some (.slice (some ⟨d, 0, none⟩) m m) := bxD.cell (j := 1) (by omega)
    have x3 : Y.drew.cell? ⟨b, 4, none⟩ = some (.slice (some ⟨bV, 0, none⟩) m m) := keep_cell bD (Nat.le_refl _) (hR.cell rfl)
    have y0 := cell_turn x0 hgZ (by omega)
    have y3 := cell_turn x3 hgZ (by omega)
    have bZ : Below w.heap.size w Z := below_far (B := w.heap.size) bD hgZ (fun x e => by cases e; omega) (Nat.le_refl _)
    have bxZ := bxD.grown hgZ (by simp; omega)
    have rsZ := rsD.grown hgZ (by simp; omega)
    have icZ := icD.grown hgZ (by simp; omega)
    clear bD bxD rsD icD hgZ bY bxY rsY iY idY
    go_wp2_with fail
    go_region_held3 (fun X : World => X.cell? ⟨bx, 1, none⟩ = some (.slice (some ⟨d, 0, none⟩) m m) ∧ X.cell? ⟨b, 4, none⟩ = some (.slice (some ⟨bV, 0, none⟩) m m))
      (first | exact ⟨y0, y3⟩ | exact ⟨x0, x3⟩ | assumption)
      (fail)
    clear x0 x3 y0 y3 hrun1
    have x0 : Z.cell? ⟨bx, 0, none⟩ = some (.slice (some ⟨c, 0, none⟩) m m) := bxZ.cell (j := 0) (by omega)
    have x1 : Z.cell? ⟨bx, 1, none⟩ = some (.slice (some ⟨d, 0, none⟩) m m) := bxZ.cell (j := 1) (by omega)
    have r0 : Z.cell? ⟨w.heap.size, 0, none⟩ = some (.slice none 0 0) := rsZ.cell (j := 0) (by omega)
    have r1 : Z.cell? ⟨w.heap.size, 1, none⟩ = some (.slice none 0 0) := rsZ.cell (j := 1) (by omega)
    have z0 := rsZ.frozen 0
    have z1 := rsZ.frozen 1
    have hlx := bxZ.lt
    go_wp2
    have hB4 := ret_below bZ (s := w.heap.size) (Nat.le_refl _) (.slice (some ⟨c, 0, none⟩) m m) (.slice (some ⟨d, 0, none⟩) m m)
    have d0 : ((Z.setCell ⟨w.heap.size, 0, none⟩ (.slice (some ⟨c, 0, none⟩) m m)).setCell ⟨w.heap.size, 1, none⟩ (.slice (some ⟨d, 0, none⟩) m m)).cell? ⟨w.heap.size, 0, none⟩ = some (.slice (some ⟨c, 0, none⟩) m m) := by simp [go_sem, r0, r1]
    have d1 : ((Z.setCell ⟨w.heap.size, 0, none⟩ (.slice (some ⟨c, 0, none⟩) m m)).setCell ⟨w.heap.size, 1, none⟩ (.slice (some ⟨d, 0, none⟩) m m)).cell? ⟨w.heap.size, 1, none⟩ = some (.slice (some ⟨d, 0, none⟩) m m) := by simp [go_sem, r0, r1]
    have hU4 := icZ.of_block (ret_block (W := Z) (s := w.heap.size) (b := c) (.slice (some ⟨c, 0, none⟩) m m) (.slice (some ⟨d, 0, none⟩) m m) (by omega))
    have hV4 := iZ.of_block (ret_block (W := Z) (s := w.heap.size) (b := d) (.slice (some ⟨c, 0, none⟩) m m) (.slice (some ⟨d, 0, none⟩) m m) (by omega))
    have hs4 : w.heap.size + 2 ≤ ((Z.setCell ⟨w.heap.size, 0, none⟩ (.slice (some ⟨c, 0, none⟩) m m)).setCell ⟨w.heap.size, 1, none⟩ (.slice (some ⟨d, 0, none⟩) m m)).heap.size := by simp [World.setCell]; omega
    generalize ((Z.setCell ⟨w.heap.size, 0, none⟩ (.slice (some ⟨c, 0, none⟩) m m)).setCell ⟨w.heap.size, 1, none⟩ (.slice (some ⟨d, 0, none⟩) m m)) = W4 at hB4 d0 d1 hU4 hV4 hs4 ⊢
    clear bZ bxZ rsZ icZ iZ x0 x1 r0 r1 z0 z1
    simp [bodyPost, results, Try.results66, go_sem, d0, d1]
    exact ⟨c, d, by simp, by omega, by omega, by omega, hU4, hV4, hs4, hB4⟩
  · generalize hWX : World.drew _ = X
    have hX : HO w m (w.heap.size + 1 + 1) (w.heap.size + 1) (w.heap.size + 1 + 1 + 1) X := by rw [← hWX]; exact ho_2 w m
    clear hWX
    generalize w.heap.size + 1 + 1 + 1 = bx at hX ⊢
    generalize w.heap.size + 1 + 1 = c at hX ⊢
    generalize w.heap.size + 1 = d at hX ⊢
    clear hmk
    have hge := hX.ge
    have hne := hX.ne
    have bD := below_next hX.bel (Nat.le_refl _) (drew_b X)
    have bxD := hX.box.next (drew_b X)
    have rsD := hX.res.next (drew_b X)
    have idD := hX.id.nx (drew_b X)
    obtain ⟨Y, hrun1, iY, hgY⟩ := run_copy_ints X.drew c m bU _ U (hX.ic.nx (drew_b X)) (hR.up.below bD hul) 3
    have x0 : X.drew.cell? ⟨bx, 0, none⟩ = some (.slice (some ⟨c, 0, none⟩) m m) := bxD.cell (j := 0) (by omega)
    have x3 : X.drew.cell? ⟨b, 3, none⟩ = some (.slice (some ⟨bU, 0, none⟩) m m) := keep_cell bD (Nat.le_refl _) (hR.cell rfl)
    have y0 := cell_turn x0 hgY (by omega)
    have y3 := cell_turn x3 hgY (by omega)
    have bY : Below w.heap.size w Y := below_far (B := w.heap.size) bD hgY (fun x e => by cases e; omega) (Nat.le_refl _)
    have bxY := bxD.grown hgY (by simp; omega)
    have rsY := rsD.grown hgY (by simp; omega)
    have idY := idD.grown hgY (by simp; omega)
    clear hX bD bxD rsD idD hgY
    go_wp2_with fail
    go_region_held3 (fun X : World => X.cell? ⟨bx, 0, none⟩ = some (.slice (some ⟨c, 0, none⟩) m m) ∧ X.cell? ⟨b, 3, none⟩ = some (.slice (some ⟨bU, 0, none⟩) m m))
      (first | exact ⟨y0, y3⟩ | exact ⟨x0, x3⟩ | assumption)
      (fail)
    clear x0 x3 y0 y3 hrun1
    have bD := below_next bY (Nat.le_refl _) (drew_b Y)
    have bxD := bxY.next (drew_b Y)
    have rsD := rsY.next (drew_b Y)
    have icD := iY.nx (drew_b Y)
    obtain ⟨Z, hrun1, iZ, hgZ⟩ := run_copy_ints Y.drew d m bV _ V (idY.nx (drew_b Y)) (hR.dn.below bD hvl) 3
    have x0 : Y.drew.cell? ⟨bx, 1, none⟩ = some (.slice (some ⟨d, 0, none⟩) m m) := bxD.cell (j := 1) (by omega)
    have x3 : Y.drew.cell? ⟨b, 4, none⟩ = some (.slice (some ⟨bV, 0, none⟩) m m) := keep_cell bD (Nat.le_refl _) (hR.cell rfl)
    have y0 := cell_turn x0 hgZ (by omega)
    have y3 := cell_turn x3 hgZ (by omega)
    have bZ : Below w.heap.size w Z := below_far (B := w.heap.size) bD hgZ (fun x e => by cases e; omega) (Nat.le_refl _)
    have bxZ := bxD.grown hgZ (by simp; omega)
    have rsZ := rsD.grown hgZ (by simp; omega)
    have icZ := icD.grown hgZ (by simp; omega)
    clear bD bxD rsD icD hgZ bY bxY rsY iY idY
    go_wp2_with fail
    go_region_held3 (fun X : World => X.cell? ⟨bx, 1, none⟩ = some (.slice (some ⟨d, 0, none⟩) m m) ∧ X.cell? ⟨b, 4, none⟩ = some (.slice (some ⟨bV, 0, none⟩) m m))
      (first | exact ⟨y0, y3⟩ | exact ⟨x0, x3⟩ | assumption)
      (fail)
    clear x0 x3 y0 y3 hrun1
    have x0 : Z.cell? ⟨bx, 0, none⟩ = some (.slice (some ⟨c, 0, none⟩) m m) := bxZ.cell (j := 0) (by omega)
    have x1 : Z.cell? ⟨bx, 1, none⟩ = some (.slice (some ⟨d, 0, none⟩) m m) := bxZ.cell (j := 1) (by omega)
    have r0 : Z.cell? ⟨w.heap.size, 0, none⟩ = some (.slice none 0 0) := rsZ.cell (j := 0) (by omega)
    have r1 : Z.cell? ⟨w.heap.size, 1, none⟩ = some (.slice none 0 0) := rsZ.cell (j := 1) (by omega)
    have z0 := rsZ.frozen 0
    have z1 := rsZ.frozen 1
    have hlx := bxZ.lt
    go_wp2
    have hB4 := ret_below bZ (s := w.heap.size) (Nat.le_refl _) (.slice (some ⟨c, 0, none⟩) m m) (.slice (some ⟨d, 0, none⟩) m m)
    have d0 : ((Z.setCell ⟨w.heap.size, 0, none⟩ (.slice (some ⟨c, 0, none⟩) m m)).setCell ⟨w.heap.size, 1, none⟩ (.slice (some ⟨d, 0, none⟩) m m)).cell? ⟨w.heap.size, 0, none⟩ = some (.slice (some ⟨c, 0, none⟩) m m) := by simp [go_sem, r0, r1]
    have d1 : ((Z.setCell ⟨w.heap.size, 0, none⟩ (.slice (some ⟨c, 0, none⟩) m m)).setCell ⟨w.heap.size, 1, none⟩ (.slice (some ⟨d, 0, none⟩) m m)).cell? ⟨w.heap.size, 1, none⟩ = some (.slice (some ⟨d, 0, none⟩) m m) := by simp [go_sem, r0, r1]
    have hU4 := icZ.of_block (ret_block (W := Z) (s := w.heap.size) (b := c) (.slice (some ⟨c, 0, none⟩) m m) (.slice (some ⟨d, 0, none⟩) m m) (by omega))
    have hV4 := iZ.of_block (ret_block (W := Z) (s := w.heap.size) (b := d) (.slice (some ⟨c, 0, none⟩) m m) (.slice (some ⟨d, 0, none⟩) m m) (by omega))
    have hs4 : w.heap.size + 2 ≤ ((Z.setCell ⟨w.heap.size, 0, none⟩ (.slice (some ⟨c, 0, none⟩) m m)).setCell ⟨w.heap.size, 1, none⟩ (.slice (some ⟨d, 0, none⟩) m m)).heap.size := by simp [World.setCell]; omega
    generalize ((Z.setCell ⟨w.heap.size, 0, none⟩ (.slice (some ⟨c, 0, none⟩) m m)).setCell ⟨w.heap.size, 1, none⟩ (.slice (some ⟨d, 0, none⟩) m m)) = W4 at hB4 d0 d1 hU4 hV4 hs4 ⊢
    clear bZ bxZ rsZ icZ iZ x0 x1 r0 r1 z0 z1
    simp [bodyPost, results, Try.results66, go_sem, d0, d1]
    exact ⟨c, d, by simp, by omega, by omega, by omega, hU4, hV4, hs4, hB4⟩
  · generalize hWX : World.drew _ = X
    have hX : HO w m (w.heap.size + 1 + 1 + 1) (w.heap.size + 1) (w.heap.size + 1 + 1) X := by rw [← hWX]; exact ho_3 w m
    clear hWX
    generalize w.heap.size + 1 + 1 + 1 = c at hX ⊢
    generalize w.heap.size + 1 + 1 = bx at hX ⊢
    generalize w.heap.size + 1 = d at hX ⊢
    clear hmk
    have hge := hX.ge
    have hne := hX.ne
    have bD := below_next hX.bel (Nat.le_refl _) (drew_b X)
    have bxD := hX.box.next (drew_b X)
    have rsD := hX.res.next (drew_b X)
    have idD := hX.id.nx (drew_b X)
    obtain ⟨Y, hrun1, iY, hgY⟩ := run_copy_ints X.drew c m bU _ U (hX.ic.nx (drew_b X)) (hR.up.below bD hul) 3
    have x0 : X.drew.cell? ⟨bx, 0, none⟩ = some (.slice (some ⟨c, 0, none⟩) m m) := bxD.cell (j := 0) (by omega)
    have x3 : X.drew.cell? ⟨b, 3, none⟩ = some (.slice (some ⟨bU, 0, none⟩) m m) := keep_cell bD (Nat.le_refl _) (hR.cell rfl)
    have y0 := cell_turn x0 hgY (by omega)
    have y3 := cell_turn x3 hgY (by omega)
    have bY : Below w.heap.size w Y := below_far (B := w.heap.size) bD hgY (fun x e => by cases e; omega) (Nat.le_refl _)
    have bxY := bxD.grown hgY (by simp; omega)
    have rsY := rsD.grown hgY (by simp; omega)
    have idY := idD.grown hgY (by simp; omega)
    clear hX bD bxD rsD idD hgY
    go_wp2_with fail
    go_region_held3 (fun X : World => X.cell? ⟨bx, 0, none⟩ = some (.slice (some ⟨c, 0, none⟩) m m) ∧ X.cell? ⟨b, 3, none⟩ = some (.slice (some ⟨bU, 0, none⟩) m m))
      (first | exact ⟨y0, y3⟩ | exact ⟨x0, x3⟩ | assumption)
      (fail)
    clear x0 x3 y0 y3 hrun1
    have bD := below_next bY (Nat.le_refl _) (drew_b Y)
    have bxD := bxY.next (drew_b Y)
    have rsD := rsY.next (drew_b Y)
    have icD := iY.nx (drew_b Y)
    obtain ⟨Z, hrun1, iZ, hgZ⟩ := run_copy_ints Y.drew d m bV _ V (idY.nx (drew_b Y)) (hR.dn.below bD hvl) 3
    have x0 : Y.drew.cell? ⟨bx, 1, none⟩ = some (.slice (some ⟨d, 0, none⟩) m m) := bxD.cell (j := 1) (by omega)
    have x3 : Y.drew.cell? ⟨b, 4, none⟩ = some (.slice (some ⟨bV, 0, none⟩) m m) := keep_cell bD (Nat.le_refl _) (hR.cell rfl)
    have y0 := cell_turn x0 hgZ (by omega)
    have y3 := cell_turn x3 hgZ (by omega)
    have bZ : Below w.heap.size w Z := below_far (B := w.heap.size) bD hgZ (fun x e => by cases e; omega) (Nat.le_refl _)
    have bxZ := bxD.grown hgZ (by simp; omega)
    have rsZ := rsD.grown hgZ (by simp; omega)
    have icZ := icD.grown hgZ (by simp; omega)
    clear bD bxD rsD icD hgZ bY bxY rsY iY idY
    go_wp2_with fail
    go_region_held3 (fun X : World => X.cell? ⟨bx, 1, none⟩ = some (.slice (some ⟨d, 0, none⟩) m m) ∧ X.cell? ⟨b, 4, none⟩ = some (.slice (some ⟨bV, 0, none⟩) m m))
      (first | exact ⟨y0, y3⟩ | exact ⟨x0, x3⟩ | assumption)
      (fail)
    clear x0 x3 y0 y3 hrun1
    have x0 : Z.cell? ⟨bx, 0, none⟩ = some (.slice (some ⟨c, 0, none⟩) m m) := bxZ.cell (j := 0) (by omega)
    have x1 : Z.cell? ⟨bx, 1, none⟩ = some (.slice (some ⟨d, 0, none⟩) m m) := bxZ.cell (j := 1) (by omega)
    have r0 : Z.cell? ⟨w.heap.size, 0, none⟩ = some (.slice none 0 0) := rsZ.cell (j := 0) (by omega)
    have r1 : Z.cell? ⟨w.heap.size, 1, none⟩ = some (.slice none 0 0) := rsZ.cell (j := 1) (by omega)
    have z0 := rsZ.frozen 0
    have z1 := rsZ.frozen 1
    have hlx := bxZ.lt
    go_wp2
    have hB4 := ret_below bZ (s := w.heap.size) (Nat.le_refl _) (.slice (some ⟨c, 0, none⟩) m m) (.slice (some ⟨d, 0, none⟩) m m)
    have d0 : ((Z.setCell ⟨w.heap.size, 0, none⟩ (.slice (some ⟨c, 0, none⟩) m m)).setCell ⟨w.heap.size, 1, none⟩ (.slice (some ⟨d, 0, none⟩) m m)).cell? ⟨w.heap.size, 0, none⟩ = some (.slice (some ⟨c, 0, none⟩) m m) := by simp [go_sem, r0, r1]
    have d1 : ((Z.setCell ⟨w.heap.size, 0, none⟩ (.slice (some ⟨c, 0, none⟩) m m)).setCell ⟨w.heap.size, 1, none⟩ (.slice (some ⟨d, 0, none⟩) m m)).cell? ⟨w.heap.size, 1, none⟩ = some (.slice (some ⟨d, 0, none⟩) m m) := by simp [go_sem, r0, r1]
    have hU4 := icZ.of_block (ret_block (W := Z) (s := w.heap.size) (b := c) (.slice (some ⟨c, 0, none⟩) m m) (.slice (some ⟨d, 0, none⟩) m m) (by omega))
    have hV4 := iZ.of_block (ret_block (W := Z) (s := w.heap.size) (b := d) (.slice (some ⟨c, 0, none⟩) m m) (.slice (some ⟨d, 0, none⟩) m m) (by omega))
    have hs4 : w.heap.size + 2 ≤ ((Z.setCell ⟨w.heap.size, 0, none⟩ (.slice (some ⟨c, 0, none⟩) m m)).setCell ⟨w.heap.size, 1, none⟩ (.slice (some ⟨d, 0, none⟩) m m)).heap.size := by simp [World.setCell]; omega
    generalize ((Z.setCell ⟨w.heap.size, 0, none⟩ (.slice (some ⟨c, 0, none⟩) m m)).setCell ⟨w.heap.size, 1, none⟩ (.slice (some ⟨d, 0, none⟩) m m)) = W4 at hB4 d0 d1 hU4 hV4 hs4 ⊢
    clear bZ bxZ rsZ icZ iZ x0 x1 r0 r1 z0 z1
    simp [bodyPost, results, Try.results66, go_sem, d0, d1]
    exact ⟨c, d, by simp, by omega, by omega, by omega, hU4, hV4, hs4, hB4⟩
  · generalize hWX : World.drew _ = X
    have hX : HO w m (w.heap.size + 1 + 1) (w.heap.size + 1 + 1 + 1) (w.heap.size + 1) X := by rw [← hWX]; exact ho_4 w m
    clear hWX
    generalize w.heap.size + 1 + 1 + 1 = d at hX ⊢
    generalize w.heap.size + 1 + 1 = c at hX ⊢
    generalize w.heap.size + 1 = bx at hX ⊢
    clear hmk
    have hge := hX.ge
    have hne := hX.ne
    have bD := below_next hX.bel (Nat.le_refl _) (drew_b X)
    have bxD := hX.box.next (drew_b X)
    have rsD := hX.res.next (drew_b X)
    have idD := hX.id.nx (drew_b X)
    obtain ⟨Y, hrun1, iY, hgY⟩ := run_copy_ints X.drew c m bU _ U (hX.ic.nx (drew_b X)) (hR.up.below bD hul) 3
    have x0 : X.drew.cell? ⟨bx, 0, none⟩ = some (.slice (some ⟨c, 0, none⟩) m m) := bxD.cell (j := 0) (by omega)
    have x3 : X.drew.cell? ⟨b, 3, none⟩ = some (.slice (some ⟨bU, 0, none⟩) m m) := keep_cell bD (Nat.le_refl _) (hR.cell rfl)
    have y0 := cell_turn x0 hgY (by omega)
    have y3 := cell_turn x3 hgY (by omega)
    have bY : Below w.heap.size w Y := below_far (B := w.heap.size) bD hgY (fun x e => by cases e; omega) (Nat.le_refl _)
    have bxY := bxD.grown hgY (by simp; omega)
    have rsY := rsD.grown hgY (by simp; omega)
    have idY := idD.grown hgY (by simp; omega)
    clear hX bD bxD rsD idD hgY
    go_wp2_with fail
    go_region_held3 (fun X : World => X.cell? ⟨bx, 0, none⟩ = some (.slice (some ⟨c, 0, none⟩) m m) ∧ X.cell? ⟨b, 3, none⟩ = some (.slice (some ⟨bU, 0, none⟩) m m))
      (first | exact ⟨y0, y3⟩ | exact ⟨x0, x3⟩ | assumption)
      (fail)
    clear x0 x3 y0 y3 hrun1
    have bD := below_next bY (Nat.le_refl _) (drew_b Y)
    have bxD := bxY.next (drew_b Y)
    have rsD := rsY.next (drew_b Y)
    have icD := iY.nx (drew_b Y)
    obtain ⟨Z, hrun1, iZ, hgZ⟩ := run_copy_ints Y.drew d m bV _ V (idY.nx (drew_b Y)) (hR.dn.below bD hvl) 3
    have x0 : Y.drew.cell? ⟨bx, 1, none⟩ = some (.slice (some ⟨d, 0, none⟩) m m) := bxD.cell (j := 1) (by omega)
    have x3 : Y.drew.cell? ⟨b, 4, none⟩ = some (.slice (some ⟨bV, 0, none⟩) m m) := keep_cell bD (Nat.le_refl _) (hR.cell rfl)
    have y0 := cell_turn x0 hgZ (by omega)
    have y3 := cell_turn x3 hgZ (by omega)
    have bZ : Below w.heap.size w Z := below_far (B := w.heap.size) bD hgZ (fun x e => by cases e; omega) (Nat.le_refl _)
    have bxZ := bxD.grown hgZ (by simp; omega)
    have rsZ := rsD.grown hgZ (by simp; omega)
    have icZ := icD.grown hgZ (by simp; omega)
    clear bD bxD rsD icD hgZ bY bxY rsY iY idY
    go_wp2_with fail
    go_region_held3 (fun X : World => X.cell? ⟨bx, 1, none⟩ = some (.slice (some ⟨d, 0, none⟩) m m) ∧ X.cell? ⟨b, 4, none⟩ = some (.slice (some ⟨bV, 0, none⟩) m m))
      (first | exact ⟨y0, y3⟩ | exact ⟨x0, x3⟩ | assumption)
      (fail)
    clear x0 x3 y0 y3 hrun1
    have x0 : Z.cell? ⟨bx, 0, none⟩ = some (.slice (some ⟨c, 0, none⟩) m m) := bxZ.cell (j := 0) (by omega)
    have x1 : Z.cell? ⟨bx, 1, none⟩ = some (.slice (some ⟨d, 0, none⟩) m m) := bxZ.cell (j := 1) (by omega)
    have r0 : Z.cell? ⟨w.heap.size, 0, none⟩ = some (.slice none 0 0) := rsZ.cell (j := 0) (by omega)
    have r1 : Z.cell? ⟨w.heap.size, 1, none⟩ = some (.slice none 0 0) := rsZ.cell (j := 1) (by omega)
    have z0 := rsZ.frozen 0
    have z1 := rsZ.frozen 1
    have hlx := bxZ.lt
    go_wp2
    have hB4 := ret_below bZ (s := w.heap.size) (Nat.le_refl _) (.slice (some ⟨c, 0, none⟩) m m) (.slice (some ⟨d, 0, none⟩) m m)
    have d0 : ((Z.setCell ⟨w.heap.size, 0, none⟩ (.slice (some ⟨c, 0, none⟩) m m)).setCell ⟨w.heap.size, 1, none⟩ (.slice (some ⟨d, 0, none⟩) m m)).cell? ⟨w.heap.size, 0, none⟩ = some (.slice (some ⟨c, 0, none⟩) m m) := by simp [go_sem, r0, r1]
    have d1 : ((Z.setCell ⟨w.heap.size, 0, none⟩ (.slice (some ⟨c, 0, none⟩) m m)).setCell ⟨w.heap.size, 1, none⟩ (.slice (some ⟨d, 0, none⟩) m m)).cell? ⟨w.heap.size, 1, none⟩ = some (.slice (some ⟨d, 0, none⟩) m m) := by simp [go_sem, r0, r1]
    have hU4 := icZ.of_block (ret_block (W := Z) (s := w.heap.size) (b := c) (.slice (some ⟨c, 0, none⟩) m m) (.slice (some ⟨d, 0, none⟩) m m) (by omega))
    have hV4 := iZ.of_block (ret_block (W := Z) (s := w.heap.size) (b := d) (.slice (some ⟨c, 0, none⟩) m m) (.slice (some ⟨d, 0, none⟩) m m) (by omega))
    have hs4 : w.heap.size + 2 ≤ ((Z.setCell ⟨w.heap.size, 0, none⟩ (.slice (some ⟨c, 0, none⟩) m m)).setCell ⟨w.heap.size, 1, none⟩ (.slice (some ⟨d, 0, none⟩) m m)).heap.size := by simp [World.setCell]; omega
    generalize ((Z.setCell ⟨w.heap.size, 0, none⟩ (.slice (some ⟨c, 0, none⟩) m m)).setCell ⟨w.heap.size, 1, none⟩ (.slice (some ⟨d, 0, none⟩) m m)) = W4 at hB4 d0 d1 hU4 hV4 hs4 ⊢
    clear bZ bxZ rsZ icZ iZ x0 x1 r0 r1 z0 z1
    simp [bodyPost, results, Try.results66, go_sem, d0, d1]
    exact ⟨c, d, by simp, by omega, by omega, by omega, hU4, hV4, hs4, hB4⟩
  · generalize hWX : World.drew _ = X
    have hX : HO w m (w.heap.size + 1 + 1 + 1) (w.heap.size + 1 + 1) (w.heap.size + 1) X := by rw [← hWX]; exact ho_5 w m
    clear hWX
    generalize w.heap.size + 1 + 1 + 1 = c at hX ⊢
    generalize w.heap.size + 1 + 1 = d at hX ⊢
    generalize w.heap.size + 1 = bx at hX ⊢
    clear hmk
    have hge := hX.ge
    have hne := hX.ne
    have bD := below_next hX.bel (Nat.le_refl _) (drew_b X)
    have bxD := hX.box.next (drew_b X)
    have rsD := hX.res.next (drew_b X)
    have idD := hX.id.nx (drew_b X)
    obtain ⟨Y, hrun1, iY, hgY⟩ := run_copy_ints X.drew c m bU _ U (hX.ic.nx (drew_b X)) (hR.up.below bD hul) 3
    have x0 : X.drew.cell? ⟨bx, 0, none⟩ = some (.slice (some ⟨c, 0, none⟩) m m) := bxD.cell (j := 0) (by omega)
    have x3 : X.drew.cell? ⟨b, 3, none⟩ = some (.slice (some ⟨bU, 0, none⟩) m m) := keep_cell bD (Nat.le_refl _) (hR.cell rfl)
    have y0 := cell_turn x0 hgY (by omega)
    have y3 := cell_turn x3 hgY (by omega)
    have bY : Below w.heap.size w Y := below_far (B := w.heap.size) bD hgY (fun x e => by cases e; omega) (Nat.le_refl _)
    have bxY := bxD.grown hgY (by simp; omega)
    have rsY := rsD.grown hgY (by simp; omega)
    have idY := idD.grown hgY (by simp; omega)
    clear hX bD bxD rsD idD hgY
    go_wp2_with fail
    go_region_held3 (fun X : World => X.cell? ⟨bx, 0, none⟩ = some (.slice (some ⟨c, 0, none⟩) m m) ∧ X.cell? ⟨b, 3, none⟩ = some (.slice (some ⟨bU, 0, none⟩) m m))
      (first | exact ⟨y0, y3⟩ | exact ⟨x0, x3⟩ | assumption)
      (fail)
    clear x0 x3 y0 y3 hrun1
    have bD := below_next bY (Nat.le_refl _) (drew_b Y)
    have bxD := bxY.next (drew_b Y)
    have rsD := rsY.next (drew_b Y)
    have icD := iY.nx (drew_b Y)
    obtain ⟨Z, hrun1, iZ, hgZ⟩ := run_copy_ints Y.drew d m bV _ V (idY.nx (drew_b Y)) (hR.dn.below bD hvl) 3
    have x0 : Y.drew.cell? ⟨bx, 1, none⟩ = some (.slice (some ⟨d, 0, none⟩) m m) := bxD.cell (j := 1) (by omega)
    have x3 : Y.drew.cell? ⟨b, 4, none⟩ = some (.slice (some ⟨bV, 0, none⟩) m m) := keep_cell bD (Nat.le_refl _) (hR.cell rfl)
    have y0 := cell_turn x0 hgZ (by omega)
    have y3 := cell_turn x3 hgZ (by omega)
    have bZ : Below w.heap.size w Z := below_far (B := w.heap.size) bD hgZ (fun x e => by cases e; omega) (Nat.le_refl _)
    have bxZ := bxD.grown hgZ (by simp; omega)
    have rsZ := rsD.grown hgZ (by simp; omega)
    have icZ := icD.grown hgZ (by simp; omega)
    clear bD bxD rsD icD hgZ bY bxY rsY iY idY
    go_wp2_with fail
    go_region_held3 (fun X : World => X.cell? ⟨bx, 1, none⟩ = some (.slice (some ⟨d, 0, none⟩) m m) ∧ X.cell? ⟨b, 4, none⟩ = some (.slice (some ⟨bV, 0, none⟩) m m))
      (first | exact ⟨y0, y3⟩ | exact ⟨x0, x3⟩ | assumption)
      (fail)
    clear x0 x3 y0 y3 hrun1
    have x0 : Z.cell? ⟨bx, 0, none⟩ = some (.slice (some ⟨c, 0, none⟩) m m) := bxZ.cell (j := 0) (by omega)
    have x1 : Z.cell? ⟨bx, 1, none⟩ = some (.slice (some ⟨d, 0, none⟩) m m) := bxZ.cell (j := 1) (by omega)
    have r0 : Z.cell? ⟨w.heap.size, 0, none⟩ = some (.slice none 0 0) := rsZ.cell (j := 0) (by omega)
    have r1 : Z.cell? ⟨w.heap.size, 1, none⟩ = some (.slice none 0 0) := rsZ.cell (j := 1) (by omega)
    have z0 := rsZ.frozen 0
    have z1 := rsZ.frozen 1
    have hlx := bxZ.lt
    go_wp2
    have hB4 := ret_below bZ (s := w.heap.size) (Nat.le_refl _) (.slice (some ⟨c, 0, none⟩) m m) (.slice (some ⟨d, 0, none⟩) m m)
    have d0 : ((Z.setCell ⟨w.heap.size, 0, none⟩ (.slice (some ⟨c, 0, none⟩) m m)).setCell ⟨w.heap.size, 1, none⟩ (.slice (some ⟨d, 0, none⟩) m m)).cell? ⟨w.heap.size, 0, none⟩ = some (.slice (some ⟨c, 0, none⟩) m m) := by simp [go_sem, r0, r1]
    have d1 : ((Z.setCell ⟨w.heap.size, 0, none⟩ (.slice (some ⟨c, 0, none⟩) m m)).setCell ⟨w.heap.size, 1, none⟩ (.slice (some ⟨d, 0, none⟩) m m)).cell? ⟨w.heap.size, 1, none⟩ = some (.slice (some ⟨d, 0, none⟩) m m) := by simp [go_sem, r0, r1]
    have hU4 := icZ.of_block (ret_block (W := Z) (s := w.heap.size) (b := c) (.slice (some ⟨c, 0, none⟩) m m) (.slice (some ⟨d, 0, none⟩) m m) (by omega))
    have hV4 := iZ.of_block (ret_block (W := Z) (s := w.heap.size) (b := d) (.slice (some ⟨c, 0, none⟩) m m) (.slice (some ⟨d, 0, none⟩) m m) (by omega))
    have hs4 : w.heap.size + 2 ≤ ((Z.setCell ⟨w.heap.size, 0, none⟩ (.slice (some ⟨c, 0, none⟩) m m)).setCell ⟨w.heap.size, 1, none⟩ (.slice (some ⟨d, 0, none⟩) m m)).heap.size := by simp [World.setCell]; omega
    generalize ((Z.setCell ⟨w.heap.size, 0, none⟩ (.slice (some ⟨c, 0, none⟩) m m)).setCell ⟨w.heap.size, 1, none⟩ (.slice (some ⟨d, 0, none⟩) m m)) = W4 at hB4 d0 d1 hU4 hV4 hs4 ⊢
    clear bZ bxZ rsZ icZ iZ x0 x1 r0 r1 z0 z1
    simp [bodyPost, results, Try.results66, go_sem, d0, d1]
    exact ⟨c, d, by simp, by omega, by omega, by omega, hU4, hV4, hs4, hB4⟩

end Go.Proofs.Ytjabllghohapgah

/-
  Customize, the document's and the program's, at every map and every hierarchy.
-/
set_option linter.unusedVariables false
set_option linter.unusedSimpArgs false
namespace Go.Proofs.Ytjabllghohapgah
open Go.RowKit Go.Deep Go.Joins Go.Maps
attribute [local go_sem ↓] Go.wp_at_zero Go.wp_at_succ

set_option maxHeartbeats 4000000 in
theorem implCustomize_any (p : Int) (ao : Option Addr) (n cap : Nat) (F T G : Nat → Int) (po : Option Addr) (k pcap : Nat) (P : Nat → Int) (eo : Option Addr) (m ecap : Nat) (L H : Nat → Int) (hn : n ≤ 1048576) (hk : k ≤ 1048576) (hm : m ≤ 1048576) (w : World) (hr : Row w ao n F T G) (hp : IRow w po k P) (he : ERow w eo m L H) :
    Calls Try.prog 109 #[.agg #[.int .i64 p, .slice ao n cap], .agg #[.slice po k pcap, .slice eo m ecap]] w fun e w' => MAns w w' e (lenM p n F T G k P m L H) (cusT p n F T G P).1 (cusT p n F T G P).2 := by
  have hD := b3_new w (.int .i64 p) (.slice ao n cap) (.slice po k pcap) (.slice eo m ecap)
  by_cases hH : HOk p n F T G k P m L H
  rotate_left
  · rw [lenM_no hH]
    have HN : Hid (¬ HOk p n F T G k P m L H) := hH
    clear hH
    go_enter Try.func109, Try.ntmps109
    go_wp2_with fail
    refine (implHierOk_any p ao n cap F T G po k pcap P eo m ecap L H hn hk hm _ (hr.below hD.bel (Nat.le_refl _)) (hp.below hD.bel (Nat.le_refl _)) (he.below hD.bel (Nat.le_refl _))).mono ?_
    rintro e w1 ⟨⟨b, rfl, hb⟩, hb1⟩
    obtain rfl : b = false := by
      cases b
      · rfl
      · exact absurd (hb.1 rfl) HN.out
    clear hb
    replace hD := hD.next hb1
    clear hb1
    have r0 : w1.cell? ⟨w.heap.size + 2, 0, none⟩ = some (.slice none 0 0) := hD.res.cell (j := 0) (by omega)
    have r1 : w1.cell? ⟨w.heap.size + 2, 1, none⟩ = some (.slice none 0 0) := hD.res.cell (j := 1) (by omega)
    have z0 := hD.res.frozen 0
    have z1 := hD.res.frozen 1
    have hlr := hD.res.lt
    go_wp2
    have hB4 := ret_below hD.bel (s := w.heap.size + 2) (by omega) (.slice none 0 0) (.slice none 0 0)
    have d0 : ((w1.setCell ⟨w.heap.size + 2, 0, none⟩ (.slice none 0 0)).setCell ⟨w.heap.size + 2, 1, none⟩ (.slice none 0 0)).cell? ⟨w.heap.size + 2, 0, none⟩ = some (.slice none 0 0) := by simp [go_sem, r0, r1]
    have d1 : ((w1.setCell ⟨w.heap.size + 2, 0, none⟩ (.slice none 0 0)).setCell ⟨w.heap.size + 2, 1, none⟩ (.slice none 0 0)).cell? ⟨w.heap.size + 2, 1, none⟩ = some (.slice none 0 0) := by simp [go_sem, r0, r1]
    have hs4 : w.heap.size + 2 ≤ ((w1.setCell ⟨w.heap.size + 2, 0, none⟩ (.slice none 0 0)).setCell ⟨w.heap.size + 2, 1, none⟩ (.slice none 0 0)).heap.size := by simp [World.setCell]; omega
    have hbk : ∀ q, q ≠ w.heap.size + 2 → ((w1.setCell ⟨w.heap.size + 2, 0, none⟩ (.slice none 0 0)).setCell ⟨w.heap.size + 2, 1, none⟩ (.slice none 0 0)).heap[q]? = w1.heap[q]? := fun q hq => ret_block (.slice none 0 0) (.slice none 0 0) hq
    generalize ((w1.setCell ⟨w.heap.size + 2, 0, none⟩ (.slice none 0 0)).setCell ⟨w.heap.size + 2, 1, none⟩ (.slice none 0 0)) = W4 at hB4 d0 d1 hs4 hbk ⊢
    clear r0 r1 z0 z1
    simp [bodyPost, results, Try.results109, go_sem, d0, d1]
    exact ⟨none, 0, none, 0, by simp, fun h => by omega, hs4, hB4⟩
  rw [lenM_yes hH]
  obtain ⟨hlen, heq⟩ := hok_len hH
  have HH : Hid (HOk p n F T G k P m L H) := hH
  have hE := cenv_of hH.1
  have hga : arcsB p F T G n = true := (graphB_arcs (ordB_parts hH.1).2.1).2
  have hok : okR k P = true := by
    have h1 := ordB_parts hH.1
    simp [okR, h1.2.2.2]
    omega
  rw [← hlen] at hE
  have HC : Hid (cusT p n F T G P = runT (w0U n F T G P (Lf (lstF p n F T P)) (Hf (lstF p n F T P)), w0D n F T G P (Lf (lstF p n F T P)) (Hf (lstF p n F T P))) (allT m (Lf (lstF p n F T P)) (Hf (lstF p n F T P)) m)) := by
    show _ = _
    unfold cusT
    rw [← hlen]
  have HE : Hid (CEnv k n m F T G P (Lf (lstF p n F T P)) (Hf (lstF p n F T P)) ∧ arcsB p F T G n = true) := ⟨hE, hga⟩
  have he2 : ERow w eo m (Lf (lstF p n F T P)) (Hf (lstF p n F T P)) := he.congr (fun i hi => (heq i hi).1) (fun i hi => (heq i hi).2)
  have hm3 := hE.m1000
  clear hH heq hE hga hlen
  obtain ⟨⟨CU, CD⟩, hcu⟩ : ∃ c, cusT p n F T G P = c := ⟨_, rfl⟩
  rw [hcu] at HC ⊢
  clear hcu
  go_enter Try.func109, Try.ntmps109
  go_wp2_with fail
  refine (implHierOk_any p ao n cap F T G po k pcap P eo m ecap L H hn hk hm _ (hr.below hD.bel (Nat.le_refl _)) (hp.below hD.bel (Nat.le_refl _)) (he.below hD.bel (Nat.le_refl _))).mono ?_
  rintro e w1 ⟨⟨b, rfl, hb⟩, hb1⟩
  obtain rfl : b = true := hb.2 HH.out
  clear hb
  replace hD := hD.next hb1
  clear hb1
  have q0 := hD.g0
  have q1 := hD.g1
  have q2 := hD.h0
  have q3 := hD.h1
  go_wp2_with fail
  refine (newWorkroom_any po k pcap P eo m ecap _ _ hk hm hok HE.out.1.wf _ (hp.below hD.bel (Nat.le_refl _)) (he2.below hD.bel (Nat.le_refl _))).mono ?_
  rintro e w2 ⟨b, g, rcap, bm, bU, bV, rfl, R2⟩
  have hs1 : w.heap.size + 3 ≤ w1.heap.size := by have := hD.res.lt; omega
  have hbel := hD.bel
  have hD2 := hD.next R2.bel
  have hgU := R2.ge
  have he1 := he2.below hbel (Nat.le_refl _)
  clear q0 q1 q2 q3 hD
  have q0 := hD2.g0
  have q1 := hD2.g1
  have hr1 := hr.below hD2.bel (Nat.le_refl _)
  have hao : 0 < n → ∀ a, ao = some a → a.block ≠ bU ∧ a.block ≠ bV := fun h0 a e => by
    obtain ⟨b', o', e', c0', _⟩ := hr 0 h0
    rw [e] at e'
    cases e'
    have := lt_of_cell c0'
    have := hbel.size
    simp only
    omega
  go_wp2_with fail
  refine (customize_any w1 k n m p ao cap F T G P _ _ eo ecap b g rcap bm bU bV _ _ HE.out.1 hao _ he1 hr1 R2).mono ?_
  rw [← HC.out]
  rintro e w3 ⟨⟨v3, rfl⟩, R3, T3⟩
  have hD3 : B3 w (.int .i64 p) (.slice ao n cap) (.slice po k pcap) (.slice eo m ecap) w3 := ⟨hbel.trans (R3.bel.mono hbel.size), T3.cell (by simp; omega) hD2.g0, T3.cell (by simp; omega) hD2.g1, T3.cell (by simp; omega) hD2.h0, T3.cell (by simp; omega) hD2.h1, hD2.res.of_block (T3.block _ hD2.res.lt (by simp; omega))⟩
  clear T3 R2 hD2 q0 q1
  go_wp2_with fail
  refine (handOut_any w1 k m P _ _ eo ecap b g rcap bm bU bV _ _ hm3 _ R3).mono ?_
  rintro e w4 ⟨c, d, rfl, hc, hd, hne, iU, iV, hsz, hb4⟩
  have hs3 := hD3.res.lt
  replace hD3 := hD3.next hb4
  clear hb4
  have r0 : w4.cell? ⟨w.heap.size + 2, 0, none⟩ = some (.slice none 0 0) := hD3.res.cell (j := 0) (by omega)
  have r1 : w4.cell? ⟨w.heap.size + 2, 1, none⟩ = some (.slice none 0 0) := hD3.res.cell (j := 1) (by omega)
  have z0 := hD3.res.frozen 0
  have z1 := hD3.res.frozen 1
  have hlr := hD3.res.lt
  go_wp2
  have hB4 := ret_below hD3.bel (s := w.heap.size + 2) (by omega) (.slice (some ⟨c, 0, none⟩) m m) (.slice (some ⟨d, 0, none⟩) m m)
  have d0 : ((w4.setCell ⟨w.heap.size + 2, 0, none⟩ (.slice (some ⟨c, 0, none⟩) m m)).setCell ⟨w.heap.size + 2, 1, none⟩ (.slice (some ⟨d, 0, none⟩) m m)).cell? ⟨w.heap.size + 2, 0, none⟩ = some (.slice (some ⟨c, 0, none⟩) m m) := by simp [go_sem, r0, r1]
  have d1 : ((w4.setCell ⟨w.heap.size + 2, 0, none⟩ (.slice (some ⟨c, 0, none⟩) m m)).setCell ⟨w.heap.size + 2, 1, none⟩ (.slice (some ⟨d, 0, none⟩) m m)).cell? ⟨w.heap.size + 2, 1, none⟩ = some (.slice (some ⟨d, 0, none⟩) m m) := by simp [go_sem, r0, r1]
  have hs4 : w.heap.size + 2 ≤ ((w4.setCell ⟨w.heap.size + 2, 0, none⟩ (.slice (some ⟨c, 0, none⟩) m m)).setCell ⟨w.heap.size + 2, 1, none⟩ (.slice (some ⟨d, 0, none⟩) m m)).heap.size := by simp [World.setCell]; omega
  have hbk : ∀ q, q ≠ w.heap.size + 2 → ((w4.setCell ⟨w.heap.size + 2, 0, none⟩ (.slice (some ⟨c, 0, none⟩) m m)).setCell ⟨w.heap.size + 2, 1, none⟩ (.slice (some ⟨d, 0, none⟩) m m)).heap[q]? = w4.heap[q]? := fun q hq => ret_block (.slice (some ⟨c, 0, none⟩) m m) (.slice (some ⟨d, 0, none⟩) m m) hq
  generalize ((w4.setCell ⟨w.heap.size + 2, 0, none⟩ (.slice (some ⟨c, 0, none⟩) m m)).setCell ⟨w.heap.size + 2, 1, none⟩ (.slice (some ⟨d, 0, none⟩) m m)) = W4 at hB4 d0 d1 hs4 hbk ⊢
  clear r0 r1 z0 z1
  simp [bodyPost, results, Try.results109, go_sem, d0, d1]
  exact ⟨some ⟨c, 0, none⟩, m, some ⟨d, 0, none⟩, m, by simp, fun h0 => ⟨c, d, rfl, rfl, by omega, by omega, hne, iU.of_block (hbk c (by omega)), iV.of_block (hbk d (by omega))⟩, hs4, hB4⟩

end Go.Proofs.Ytjabllghohapgah

/-
  WeightOf: the document's and the program's, each held against one plain function of the arcs.
-/
set_option linter.unusedVariables false
set_option linter.unusedSimpArgs false
namespace Go.Proofs.Ytjabllghohapgah
open Go.RowKit Go.Maps

def wOf (p : Int) (n : Nat) (F T G : Nat → Int) (a b : Int) : Int := if graphB p n F T G then lastW F T G a b n else 1000000000000
theorem wf_small {p : Int} {F T G : Nat → Int} {n : Nat} (hp : inB p 1 24 = true) (h : arcsB p F T G n = true) : WfTo F T n := fun k hk => by
  have := (arcsB_each n h k hk).1
  simp [arcB, inB] at this hp
  exact ⟨WalkArith.wf_i64 (by omega), WalkArith.wf_i64 (by omega)⟩

end Go.Proofs.Ytjabllghohapgah

/-
  A right map and hierarchy and the metric that Customize makes of them are what a guide is of; is a metric customized, by the program.
-/
set_option linter.unusedVariables false
set_option linter.unusedSimpArgs false
namespace Go.Proofs.Ytjabllghohapgah
open Go.RowKit Go.Maps Go.Deep Go.Joins
attribute [local go_sem ↓] Go.wp_at_zero Go.wp_at_succ

theorem gd_can {p : Int} {n : Nat} {F T G : Nat → Int} {k : Nat} {P : Nat → Int} (h : ordB p n F T G k P = true) :
    Gd p n F T G k P (lstF p n F T P).length (Lf (lstF p n F T P)) (Hf (lstF p n F T P)) (cusT p n F T G P).1 (cusT p n F T G P).2 := by
  have C := cenv_of h
  obtain ⟨hkp, hg, ⟨k1, k24⟩, he⟩ := ordB_parts h
  have hI := runT_in (m := (lstF p n F T P).length) (L := Lf (lstF p n F T P)) (H := Hf (lstF p n F T P)) (s := (w0U n F T G P (Lf (lstF p n F T P)) (Hf (lstF p n F T P)), w0D n F T G P (Lf (lstF p n F T P)) (Hf (lstF p n F T P)))) (fun j hj => w0_in C.gt) (fun j hj => w0_in C.gt) (allT (lstF p n F T P).length (Lf (lstF p n F T P)) (Hf (lstF p n F T P)) (lstF p n F T P).length) (fun t ht => allT_ok C.ed C.chd.2 _ t ht)
  exact ⟨by have := C.n100; omega, by omega, by have := C.m1000; omega, ⟨_, C.ed⟩, (graphB_arcs hg).2, wf_small (graphB_p hg) (graphB_arcs hg).2, C.wf, fun j hj => by
    have := (each_in _ he j hj).1
    exact WalkArith.wf_i64 (by omega), fun j hj => hI.1 j hj, fun j hj => hI.2 j hj, C.ei⟩
/-- Is the metric that of the map and the hierarchy? -/
def IsC (p : Int) (n : Nat) (F T G : Nat → Int) (k : Nat) (P : Nat → Int) (m : Nat) (L H : Nat → Int) (u : Nat) (U : Nat → Int) (v : Nat) (V : Nat → Int) : Prop := HOk p n F T G k P m L H ∧ SameI m u (cusT p n F T G P).1 U ∧ SameI m v (cusT p n F T G P).2 V
/-- The boxes of the three arguments, the metric of any length. -/
structure U6 (w W : World) (p : Int) (ao : Option Addr) (n cap : Nat) (po : Option Addr) (k pcap : Nat) (eo : Option Addr) (m ecap : Nat) (uo : Option Addr) (u ucap : Nat) (vo : Option Addr) (v vcap : Nat) : Prop where
  bel : Below w.heap.size w W
  g0 : W.cell? ⟨w.heap.size, 0, none⟩ = some (.int .i64 p)
  g1 : W.cell? ⟨w.heap.size, 1, none⟩ = some (.slice ao n cap)
  h0 : W.cell? ⟨w.heap.size + 1, 0, none⟩ = some (.slice po k pcap)
  h1 : W.cell? ⟨w.heap.size + 1, 1, none⟩ = some (.slice eo m ecap)
  m0 : W.cell? ⟨w.heap.size + 2, 0, none⟩ = some (.slice uo u ucap)
  m1 : W.cell? ⟨w.heap.size + 2, 1, none⟩ = some (.slice vo v vcap)
  sz : w.heap.size + 3 ≤ W.heap.size
theorem u6_new (w : World) {p : Int} {ao : Option Addr} {n cap : Nat} {po : Option Addr} {k pcap : Nat} {eo : Option Addr} {m ecap : Nat} {uo : Option Addr} {u ucap : Nat} {vo : Option Addr} {v vcap : Nat} : U6 w (((w.alloc (.cells #[.int .i64 p, .slice ao n cap] 47)).alloc (.cells #[.slice po k pcap, .slice eo m ecap] 33)).alloc (.cells #[.slice uo u ucap, .slice vo v vcap] 35)) p ao n cap po k pcap eo m ecap uo u ucap vo v vcap :=
  ⟨(((Below.refl _ _).alloc (Nat.le_refl _) _).alloc (by simp) _).alloc (by simp; omega) _, by simp [go_sem], by simp [go_sem], by simp [go_sem], by simp [go_sem], by simp [go_sem], by simp [go_sem], by simp⟩
theorem U6.next {w W W' : World} {p : Int} {ao : Option Addr} {n cap : Nat} {po : Option Addr} {k pcap : Nat} {eo : Option Addr} {m ecap : Nat} {uo : Option Addr} {u ucap : Nat} {vo : Option Addr} {v vcap : Nat} (h : U6 w W p ao n cap po k pcap eo m ecap uo u ucap vo v vcap) (hb : Below W.heap.size W W') : U6 w W' p ao n cap po k pcap eo m ecap uo u ucap vo v vcap :=
  ⟨below_next h.bel (Nat.le_refl _) hb, keep_cell hb (Nat.le_refl _) h.g0, keep_cell hb (Nat.le_refl _) h.g1, keep_cell hb (Nat.le_refl _) h.h0, keep_cell hb (Nat.le_refl _) h.h1, keep_cell hb (Nat.le_refl _) h.m0, keep_cell hb (Nat.le_refl _) h.m1, Nat.le_trans h.sz hb.size⟩

set_option maxRecDepth 100000 in
set_option maxHeartbeats 4000000 in
theorem isCustomized_any (p : Int) (ao : Option Addr) (n cap : Nat) (F T G : Nat → Int) (po : Option Addr) (k pcap : Nat) (P : Nat → Int) (eo : Option Addr) (m ecap : Nat) (L H : Nat → Int) (uo : Option Addr) (u ucap : Nat) (U : Nat → Int) (vo : Option Addr) (v vcap : Nat) (V : Nat → Int) (hn : n ≤ 1048576) (hk : k ≤ 1048576) (hm : m ≤ 1048576) (hu : u ≤ 1048576) (hv : v ≤ 1048576) (w : World) (hr : Row w ao n F T G) (hp : IRow w po k P) (he : ERow w eo m L H) (hU : IRow w uo u U) (hV : IRow w vo v V) :
    Calls Try.prog 81 #[.agg #[.int .i64 p, .slice ao n cap], .agg #[.slice po k pcap, .slice eo m ecap], .agg #[.slice uo u ucap, .slice vo v vcap]] w fun e w' => BAns e (IsC p n F T G k P m L H u U v V) ∧ Below w.heap.size w w' := by
  have HH := fun W h1 h2 h3 => implHierOk_any p ao n cap F T G po k pcap P eo m ecap L H hn hk hm W h1 h2 h3
  have HC := fun W h1 h2 h3 => implCustomize_any p ao n cap F T G po k pcap P eo m ecap L H hn hk hm W h1 h2 h3
  have B0 := (u6_new w (p := p) (ao := ao) (n := n) (cap := cap) (po := po) (k := k) (pcap := pcap) (eo := eo) (m := m) (ecap := ecap) (uo := uo) (u := u) (ucap := ucap) (vo := vo) (v := v) (vcap := vcap)).next (Below.refl _ _).drew
  go_enter Try.func81, Try.ntmps81
  go_wp2_with fail
  refine wp_region_held_drew (S := fun w' => U6 w w' p ao n cap po k pcap eo m ecap uo u ucap vo v vcap) (by kernel_rfl) B0 (fun hS => ?_)
  generalize (((w.alloc (.cells #[.int .i64 p, .slice ao n cap] 47)).alloc (.cells #[.slice po k pcap, .slice eo m ecap] 33)).alloc (.cells #[.slice uo u ucap, .slice vo v vcap] 35)).drew = W at B0 hS ⊢
  by_cases hH : HOk p n F T G k P m L H
  · rw [lenM_yes hH] at HC
    refine takeH 0 (some 7) (.agg #[.int .i64 p, .slice ao n cap]) rfl rfl (by kernel_rfl) (by kernel_rfl) (by kernel_rfl) (fun _ _ _ h => h) (by rfl) hS (fun w hSw => by have y0 := hSw.g0; have y1 := hSw.g1; have y2 := hSw.h0; have y3 := hSw.h1; have y4 := hSw.m0; have y5 := hSw.m1; go_split_ands; go_simp <;> first | rfl | omega | (intro h; exfalso; omega)) ?_
    simp only [Act.put, List.setIfInBounds_toArray, List.set_cons_zero, List.set_cons_succ]
    refine takeH 1 (some 8) (.agg #[.slice po k pcap, .slice eo m ecap]) rfl rfl (by kernel_rfl) (by kernel_rfl) (by kernel_rfl) (fun _ _ _ h => h) (by rfl) hS (fun w hSw => by have y0 := hSw.g0; have y1 := hSw.g1; have y2 := hSw.h0; have y3 := hSw.h1; have y4 := hSw.m0; have y5 := hSw.m1; go_split_ands; go_simp <;> first | rfl | omega | (intro h; exfalso; omega)) ?_
    simp only [Act.put, List.setIfInBounds_toArray, List.set_cons_zero, List.set_cons_succ]
    refine step1H 2 _ rfl (by kernel_rfl) (by rfl) ?_
    go_simp
    refine (HH _ (hr.below hS.bel (Nat.le_refl _)) (hp.below hS.bel (Nat.le_refl _)) (he.below hS.bel (Nat.le_refl _))).mono ?_
    rintro e x1 ⟨⟨b, rfl, hb⟩, hx1⟩
    obtain rfl : b = true := by cases b <;> simp_all
    have hS1 := U6.next hS hx1
    refine ⟨hS1, ?_⟩
    refine takeH 3 (some 10) (.bool true) rfl rfl (by kernel_rfl) (by kernel_rfl) (by kernel_rfl) (fun _ _ _ h => h) (by rfl) hS1 (fun w hSw => by have y0 := hSw.g0; have y1 := hSw.g1; have y2 := hSw.h0; have y3 := hSw.h1; have y4 := hSw.m0; have y5 := hSw.m1; go_split_ands; go_simp <;> first | rfl | omega | (intro h; exfalso; omega)) ?_
    simp only [Act.put, List.setIfInBounds_toArray, List.set_cons_zero, List.set_cons_succ]
    refine takeH 4 (some 11) (.agg #[.int .i64 p, .slice ao n cap]) rfl rfl (by kernel_rfl) (by kernel_rfl) (by kernel_rfl) (fun _ _ _ h => h) (by rfl) hS1 (fun w hSw => by have y0 := hSw.g0; have y1 := hSw.g1; have y2 := hSw.h0; have y3 := hSw.h1; have y4 := hSw.m0; have y5 := hSw.m1; go_split_ands; go_simp <;> first | rfl | omega | (intro h; exfalso; omega)) ?_
    simp only [Act.put, List.setIfInBounds_toArray, List.set_cons_zero, List.set_cons_succ]
    refine takeH 5 (some 12) (.agg #[.slice po k pcap, .slice eo m ecap]) rfl rfl (by kernel_rfl) (by kernel_rfl) (by kernel_rfl) (fun _ _ _ h => h) (by rfl) hS1 (fun w hSw => by have y0 := hSw.g0; have y1 := hSw.g1; have y2 := hSw.h0; have y3 := hSw.h1; have y4 := hSw.m0; have y5 := hSw.m1; go_split_ands; go_simp <;> first | rfl | omega | (intro h; exfalso; omega)) ?_
    simp only [Act.put, List.setIfInBounds_toArray, List.set_cons_zero, List.set_cons_succ]
    refine takeH 7 (some 14) (.agg #[.slice uo u ucap, .slice vo v vcap]) rfl rfl (by kernel_rfl) (by kernel_rfl) (by kernel_rfl) (fun _ _ _ h => h) (by rfl) hS1 (fun w hSw => by have y0 := hSw.g0; have y1 := hSw.g1; have y2 := hSw.h0; have y3 := hSw.h1; have y4 := hSw.m0; have y5 := hSw.m1; go_split_ands; go_simp <;> first | rfl | omega | (intro h; exfalso; omega)) ?_
    simp only [Act.put, List.setIfInBounds_toArray, List.set_cons_zero, List.set_cons_succ]
    refine step1H 6 _ rfl (by kernel_rfl) (by rfl) ?_
    go_simp
    refine (HC _ (hr.below hS1.bel (Nat.le_refl _)) (hp.below hS1.bel (Nat.le_refl _)) (he.below hS1.bel (Nat.le_refl _))).mono ?_
    rintro e x2 ⟨aX, cX, bX, dX, rfl, hX, _, hx2⟩
    have hS2 := U6.next hS1 hx2
    refine ⟨hS2, ?_⟩
    have r1 : IRow x2 aX m (cusT p n F T G P).1 := fun j hj => by
      obtain ⟨b, c, rfl, _, _, _, _, q5, _⟩ := hX (by omega)
      exact q5.row j hj
    have r2 : IRow x2 bX m (cusT p n F T G P).2 := fun j hj => by
      obtain ⟨b, c, _, rfl, _, _, _, _, q6⟩ := hX (by omega)
      exact q6.row j hj
    refine step1H 8 _ rfl (by kernel_rfl) (by rfl) ?_
    go_simp
    refine (sameMetric_any aX m cX _ bX m dX _ uo u ucap U vo v vcap V hm hm hu hv _ r1 r2 (hU.below hS2.bel (Nat.le_refl _)) (hV.below hS2.bel (Nat.le_refl _))).mono ?_
    rintro e x3 ⟨⟨b, rfl, hb2⟩, hx3⟩
    have hS3 := U6.next hS2 hx3
    refine ⟨hS3, ?_⟩
    refine takeH 9 (some 16) (.bool b) rfl rfl (by kernel_rfl) (by kernel_rfl) (by kernel_rfl) (fun _ _ _ h => h) (by rfl) hS3 (fun w hSw => by have y0 := hSw.g0; have y1 := hSw.g1; have y2 := hSw.h0; have y3 := hSw.h1; have y4 := hSw.m0; have y5 := hSw.m1; go_split_ands; go_simp <;> first | rfl | omega | (intro h; exfalso; omega)) ?_
    simp only [Act.put, List.setIfInBounds_toArray, List.set_cons_zero, List.set_cons_succ]
    refine takeH 10 (some 6) (.bool b) rfl rfl (by kernel_rfl) (by kernel_rfl) (by kernel_rfl) (fun _ _ _ h => h) (by rfl) hS3 (fun w hSw => by have y0 := hSw.g0; have y1 := hSw.g1; have y2 := hSw.h0; have y3 := hSw.h1; have y4 := hSw.m0; have y5 := hSw.m1; go_split_ands; go_simp <;> first | rfl | omega | (intro h; exfalso; omega)) ?_
    simp only [Act.put, List.setIfInBounds_toArray, List.set_cons_zero, List.set_cons_succ]
    refine wpAnyH_done (by kernel_rfl) ?_ _
    go_wp2
    go_ret
    exact ⟨⟨b, rfl, by rw [hb2]; exact ⟨fun h => ⟨hH, h⟩, fun h => h.2⟩⟩, hS3.bel⟩
  · refine takeH 0 (some 7) (.agg #[.int .i64 p, .slice ao n cap]) rfl rfl (by kernel_rfl) (by kernel_rfl) (by kernel_rfl) (fun _ _ _ h => h) (by rfl) hS (fun w hSw => by have y0 := hSw.g0; have y1 := hSw.g1; have y2 := hSw.h0; have y3 := hSw.h1; have y4 := hSw.m0; have y5 := hSw.m1; go_split_ands; go_simp <;> first | rfl | omega | (intro h; exfalso; omega)) ?_
    simp only [Act.put, List.setIfInBounds_toArray, List.set_cons_zero, List.set_cons_succ]
    refine takeH 1 (some 8) (.agg #[.slice po k pcap, .slice eo m ecap]) rfl rfl (by kernel_rfl) (by kernel_rfl) (by kernel_rfl) (fun _ _ _ h => h) (by rfl) hS (fun w hSw => by have y0 := hSw.g0; have y1 := hSw.g1; have y2 := hSw.h0; have y3 := hSw.h1; have y4 := hSw.m0; have y5 := hSw.m1; go_split_ands; go_simp <;> first | rfl | omega | (intro h; exfalso; omega)) ?_
    simp only [Act.put, List.setIfInBounds_toArray, List.set_cons_zero, List.set_cons_succ]
    refine step1H 2 _ rfl (by kernel_rfl) (by rfl) ?_
    go_simp
    refine (HH _ (hr.below hS.bel (Nat.le_refl _)) (hp.below hS.bel (Nat.le_refl _)) (he.below hS.bel (Nat.le_refl _))).mono ?_
    rintro e x1 ⟨⟨b, rfl, hb⟩, hx1⟩
    obtain rfl : b = false := by cases b <;> simp_all
    have hS1 := U6.next hS hx1
    refine ⟨hS1, ?_⟩
    refine takeH 3 (some 10) (.bool false) rfl rfl (by kernel_rfl) (by kernel_rfl) (by kernel_rfl) (fun _ _ _ h => h) (by rfl) hS1 (fun w hSw => by have y0 := hSw.g0; have y1 := hSw.g1; have y2 := hSw.h0; have y3 := hSw.h1; have y4 := hSw.m0; have y5 := hSw.m1; go_split_ands; go_simp <;> first | rfl | omega | (intro h; exfalso; omega)) ?_
    simp only [Act.put, List.setIfInBounds_toArray, List.set_cons_zero, List.set_cons_succ]
    refine skipH 4 (some 11) rfl rfl (by kernel_rfl) (by kernel_rfl) (by kernel_rfl) (fun _ _ _ h => h) (by rfl) hS1 ?_
    simp only [Act.put, List.setIfInBounds_toArray, List.set_cons_zero, List.set_cons_succ]
    refine skipH 5 (some 12) rfl rfl (by kernel_rfl) (by kernel_rfl) (by kernel_rfl) (fun _ _ _ h => h) (by rfl) hS1 ?_
    simp only [Act.put, List.setIfInBounds_toArray, List.set_cons_zero, List.set_cons_succ]
    refine skipH 6 (some 13) rfl rfl (by kernel_rfl) (by kernel_rfl) (by kernel_rfl) (fun _ _ _ h => h) (by rfl) hS1 ?_
    simp only [Act.put, List.setIfInBounds_toArray, List.set_cons_zero, List.set_cons_succ]
    refine skipH 7 (some 14) rfl rfl (by kernel_rfl) (by kernel_rfl) (by kernel_rfl) (fun _ _ _ h => h) (by rfl) hS1 ?_
    simp only [Act.put, List.setIfInBounds_toArray, List.set_cons_zero, List.set_cons_succ]
    refine skipH 8 (some 15) rfl rfl (by kernel_rfl) (by kernel_rfl) (by kernel_rfl) (fun _ _ _ h => h) (by rfl) hS1 ?_
    simp only [Act.put, List.setIfInBounds_toArray, List.set_cons_zero, List.set_cons_succ]
    refine takeH 9 (some 16) (.bool false) rfl rfl (by kernel_rfl) (by kernel_rfl) (by kernel_rfl) (fun _ _ _ h => h) (by rfl) hS1 (fun w hSw => by have y0 := hSw.g0; have y1 := hSw.g1; have y2 := hSw.h0; have y3 := hSw.h1; have y4 := hSw.m0; have y5 := hSw.m1; go_split_ands; go_simp <;> first | rfl | omega | (intro h; exfalso; omega)) ?_
    simp only [Act.put, List.setIfInBounds_toArray, List.set_cons_zero, List.set_cons_succ]
    refine takeH 10 (some 6) (.bool false) rfl rfl (by kernel_rfl) (by kernel_rfl) (by kernel_rfl) (fun _ _ _ h => h) (by rfl) hS1 (fun w hSw => by have y0 := hSw.g0; have y1 := hSw.g1; have y2 := hSw.h0; have y3 := hSw.h1; have y4 := hSw.m0; have y5 := hSw.m1; go_split_ands; go_simp <;> first | rfl | omega | (intro h; exfalso; omega)) ?_
    simp only [Act.put, List.setIfInBounds_toArray, List.set_cons_zero, List.set_cons_succ]
    refine wpAnyH_done (by kernel_rfl) ?_ _
    go_wp2
    go_ret
    exact ⟨bans_no fun h => hH h.1, hS1.bel⟩

end Go.Proofs.Ytjabllghohapgah
