/-
  Helpers, merged: RoomO, Weigh, LenP, RecS, LenImpl, RankSp.
-/
import Derived.Test.YteibbknpcgcjjabPack10
import Derived.Test.YteibbknpcgcjjabPack4
import Derived.Laws.CopyOwn
import Derived.Test.YteibbknpcgcjjabPack9
import Derived.Test.YteibbknpcgcjjabPack1
import Derived.Test.YteibbknpcgcjjabPack5
import Derived.Test.YteibbknpcgcjjabPack2
import Derived.Deep.QuietTactic
import Derived.Test.YteibbknpcgcjjabPack3
/-
  The program's room: its lists handed out.
-/
set_option linter.unusedVariables false
set_option linter.unusedSimpArgs false
namespace Go.Proofs.Yteibbknpcgcjjab
open Go.RowKit Go.Deep Go.Joins Go.Maps
attribute [local go_sem ↓] Go.wp_at_zero Go.wp_at_succ

theorem drew_b (X : World) : Below X.heap.size X X.drew := (Below.refl _ _).drew
theorem me2_at (A : World) (b : Nat) (x y : Value) (h : b = A.heap.size) : VHas (A.alloc (.cells #[x, y] 42)) b 42 2 (me2 x y) := by subst h; exact me2_new A x y
theorem run_copy_ints (w : World) (c m b : Nat) (f h : Nat → Int) (hc : IHas w c m f) (hb : IHas w b m h) (ty : TypeId) :
    ∃ w', (Builtin.copy_ #[27, 27] ty #[.slice (some ⟨c, 0, none⟩) m m, .slice (some ⟨b, 0, none⟩) m m]).run Try.prog w = .ok (goInt m) w' ∧ IHas w' c m h ∧ w.grownBy w' (some c) := by
  have hsz : (Try.prog.info? 2).map (·.size) = some 1 := by kernel_rfl
  obtain ⟨cur, hh, hs, hcu⟩ := hc
  have hr := run_copy_row (P := Try.prog) w 27 27 ty 2 c 0 m m ⟨b, 0, none⟩ m m cur 2 (icells h m) Try.underlying27 hsz hh (by rw [icells_len]; simp) (fun j v hv => by
    by_cases hj : j < m
    · rw [icells_at hj] at hv
      simp at hv
      subst hv
      have : (⟨b, 0, none⟩ : Addr).add j = ⟨b, j, none⟩ := by unfold Addr.add; split <;> simp_all
      rw [this]
      exact hb.cell hj
    · rw [List.getElem?_eq_none (by rw [icells_len]; omega)] at hv
      cases hv) (by rw [icells_len]; omega) (fun v hv => by
    simp [icells] at hv
    obtain ⟨j, _, rfl⟩ := hv
    rfl)
  rw [icells_len] at hr
  refine ⟨_, hr, ?_, gr_setRow w c _⟩
  refine ⟨_, setRow_heap w c cur _ _ _ hh, ?_, fun j hj => ?_⟩
  · simp [icells]
  · simp only [List.take_zero, List.nil_append, List.getElem?_toArray]
    rw [List.getElem?_append_left (by rw [icells_len]; omega), icells_at hj]

/-- The new lists, their box and the result's. -/
structure HO (w : World) (m c d bx : Nat) (X : World) : Prop where
  bel : Below w.heap.size w X
  box : VHas X bx 42 2 (me2 (.slice (some ⟨c, 0, none⟩) m m) (.slice (some ⟨d, 0, none⟩) m m))
  res : VHas X w.heap.size 42 2 (me2 (.slice none 0 0) (.slice none 0 0))
  ic : IHas X c m (fun _ => 0)
  id : IHas X d m (fun _ => 0)
  ne : c ≠ d ∧ c ≠ bx ∧ d ≠ bx
  ge : w.heap.size < c ∧ w.heap.size < d ∧ w.heap.size < bx
theorem ho_0 (w : World) (m : Nat) : HO w m (w.heap.size + 1) (w.heap.size + 1 + 1) (w.heap.size + 1 + 1 + 1) (((((w.alloc (.cells #[.slice none 0 0, .slice none 0 0] 42)).alloc (.cells (madeCells #[.int .i64 0] m) 2)).alloc (.cells (madeCells #[.int .i64 0] m) 2)).alloc (.cells #[.slice (some ⟨w.heap.size + 1, 0, none⟩) m m, .slice (some ⟨w.heap.size + 1 + 1, 0, none⟩) m m] 42)).drew) := by
  refine ⟨(((((Below.refl _ w).alloc (Nat.le_refl _) _).alloc (by simp) _).alloc (by simp; omega) _).alloc (by simp; omega) _).drew, ?_, ?_, ?_, ?_, by omega, by omega⟩
  · repeat (first | (refine me2_at _ _ _ _ ?_; simp; done) | refine VHas.alloc ?_ _ | refine VHas.next ?_ (drew_b _))
  · repeat (first | (refine me2_at _ _ _ _ ?_; simp; done) | (refine me2_at _ _ _ _ ?_; rfl) | refine VHas.alloc ?_ _ | refine VHas.next ?_ (drew_b _))
  · repeat (first | (refine made_at _ _ _ ?_; simp; done) | refine IHas.al ?_ _ | refine IHas.nx ?_ (drew_b _))
  · repeat (first | (refine made_at _ _ _ ?_; simp; done) | refine IHas.al ?_ _ | refine IHas.nx ?_ (drew_b _))
theorem ho_1 (w : World) (m : Nat) : HO w m (w.heap.size + 1) (w.heap.size + 1 + 1 + 1) (w.heap.size + 1 + 1) (((((w.alloc (.cells #[.slice none 0 0, .slice none 0 0] 42)).alloc (.cells (madeCells #[.int .i64 0] m) 2)).alloc (.cells #[.slice (some ⟨w.heap.size + 1, 0, none⟩) m m, .slice (some ⟨w.heap.size + 1 + 1 + 1, 0, none⟩) m m] 42)).alloc (.cells (madeCells #[.int .i64 0] m) 2)).drew) := by
  refine ⟨(((((Below.refl _ w).alloc (Nat.le_refl _) _).alloc (by simp) _).alloc (by simp; omega) _).alloc (by simp; omega) _).drew, ?_, ?_, ?_, ?_, by omega, by omega⟩
  · repeat (first | (refine me2_at _ _ _ _ ?_; simp; done) | refine VHas.alloc ?_ _ | refine VHas.next ?_ (drew_b _))
  · repeat (first | (refine me2_at _ _ _ _ ?_; simp; done) | (refine me2_at _ _ _ _ ?_; rfl) | refine VHas.alloc ?_ _ | refine VHas.next ?_ (drew_b _))
  · repeat (first | (refine made_at _ _ _ ?_; simp; done) | refine IHas.al ?_ _ | refine IHas.nx ?_ (drew_b _))
  · repeat (first | (refine made_at _ _ _ ?_; simp; done) | refine IHas.al ?_ _ | refine IHas.nx ?_ (drew_b _))
theorem ho_2 (w : World) (m : Nat) : HO w m (w.heap.size + 1 + 1) (w.heap.size + 1) (w.heap.size + 1 + 1 + 1) (((((w.alloc (.cells #[.slice none 0 0, .slice none 0 0] 42)).alloc (.cells (madeCells #[.int .i64 0] m) 2)).alloc (.cells (madeCells #[.int .i64 0] m) 2)).alloc (.cells #[.slice (some ⟨w.heap.size + 1 + 1, 0, none⟩) m m, .slice (some ⟨w.heap.size + 1, 0, none⟩) m m] 42)).drew) := by
  refine ⟨(((((Below.refl _ w).alloc (Nat.le_refl _) _).alloc (by simp) _).alloc (by simp; omega) _).alloc (by simp; omega) _).drew, ?_, ?_, ?_, ?_, by omega, by omega⟩
  · repeat (first | (refine me2_at _ _ _ _ ?_; simp; done) | refine VHas.alloc ?_ _ | refine VHas.next ?_ (drew_b _))
  · repeat (first | (refine me2_at _ _ _ _ ?_; simp; done) | (refine me2_at _ _ _ _ ?_; rfl) | refine VHas.alloc ?_ _ | refine VHas.next ?_ (drew_b _))
  · repeat (first | (refine made_at _ _ _ ?_; simp; done) | refine IHas.al ?_ _ | refine IHas.nx ?_ (drew_b _))
  · repeat (first | (refine made_at _ _ _ ?_; simp; done) | refine IHas.al ?_ _ | refine IHas.nx ?_ (drew_b _))
theorem ho_3 (w : World) (m : Nat) : HO w m (w.heap.size + 1 + 1 + 1) (w.heap.size + 1) (w.heap.size + 1 + 1) (((((w.alloc (.cells #[.slice none 0 0, .slice none 0 0] 42)).alloc (.cells (madeCells #[.int .i64 0] m) 2)).alloc (.cells #[.slice (some ⟨w.heap.size + 1 + 1 + 1, 0, none⟩) m m, .slice (some ⟨w.heap.size + 1, 0, none⟩) m m] 42)).alloc (.cells (madeCells #[.int .i64 0] m) 2)).drew) := by
  refine ⟨(((((Below.refl _ w).alloc (Nat.le_refl _) _).alloc (by simp) _).alloc (by simp; omega) _).alloc (by simp; omega) _).drew, ?_, ?_, ?_, ?_, by omega, by omega⟩
  · repeat (first | (refine me2_at _ _ _ _ ?_; simp; done) | refine VHas.alloc ?_ _ | refine VHas.next ?_ (drew_b _))
  · repeat (first | (refine me2_at _ _ _ _ ?_; simp; done) | (refine me2_at _ _ _ _ ?_; rfl) | refine VHas.alloc ?_ _ | refine VHas.next ?_ (drew_b _))
  · repeat (first | (refine made_at _ _ _ ?_; simp; done) | refine IHas.al ?_ _ | refine IHas.nx ?_ (drew_b _))
  · repeat (first | (refine made_at _ _ _ ?_; simp; done) | refine IHas.al ?_ _ | refine IHas.nx ?_ (drew_b _))
theorem ho_4 (w : World) (m : Nat) : HO w m (w.heap.size + 1 + 1) (w.heap.size + 1 + 1 + 1) (w.heap.size + 1) (((((w.alloc (.cells #[.slice none 0 0, .slice none 0 0] 42)).alloc (.cells #[.slice (some ⟨w.heap.size + 1 + 1, 0, none⟩) m m, .slice (some ⟨w.heap.size + 1 + 1 + 1, 0, none⟩) m m] 42)).alloc (.cells (madeCells #[.int .i64 0] m) 2)).alloc (.cells (madeCells #[.int .i64 0] m) 2)).drew) := by
  refine ⟨(((((Below.refl _ w).alloc (Nat.le_refl _) _).alloc (by simp) _).alloc (by simp; omega) _).alloc (by simp; omega) _).drew, ?_, ?_, ?_, ?_, by omega, by omega⟩
  · repeat (first | (refine me2_at _ _ _ _ ?_; simp; done) | refine VHas.alloc ?_ _ | refine VHas.next ?_ (drew_b _))
  · repeat (first | (refine me2_at _ _ _ _ ?_; simp; done) | (refine me2_at _ _ _ _ ?_; rfl) | refine VHas.alloc ?_ _ | refine VHas.next ?_ (drew_b _))
  · repeat (first | (refine made_at _ _ _ ?_; simp; done) | refine IHas.al ?_ _ | refine IHas.nx ?_ (drew_b _))
  · repeat (first | (refine made_at _ _ _ ?_; simp; done) | refine IHas.al ?_ _ | refine IHas.nx ?_ (drew_b _))
theorem ho_5 (w : World) (m : Nat) : HO w m (w.heap.size + 1 + 1 + 1) (w.heap.size + 1 + 1) (w.heap.size + 1) (((((w.alloc (.cells #[.slice none 0 0, .slice none 0 0] 42)).alloc (.cells #[.slice (some ⟨w.heap.size + 1 + 1 + 1, 0, none⟩) m m, .slice (some ⟨w.heap.size + 1 + 1, 0, none⟩) m m] 42)).alloc (.cells (madeCells #[.int .i64 0] m) 2)).alloc (.cells (madeCells #[.int .i64 0] m) 2)).drew) := by
  refine ⟨(((((Below.refl _ w).alloc (Nat.le_refl _) _).alloc (by simp) _).alloc (by simp; omega) _).alloc (by simp; omega) _).drew, ?_, ?_, ?_, ?_, by omega, by omega⟩
  · repeat (first | (refine me2_at _ _ _ _ ?_; simp; done) | refine VHas.alloc ?_ _ | refine VHas.next ?_ (drew_b _))
  · repeat (first | (refine me2_at _ _ _ _ ?_; simp; done) | (refine me2_at _ _ _ _ ?_; rfl) | refine VHas.alloc ?_ _ | refine VHas.next ?_ (drew_b _))
  · repeat (first | (refine made_at _ _ _ ?_; simp; done) | refine IHas.al ?_ _ | refine IHas.nx ?_ (drew_b _))
  · repeat (first | (refine made_at _ _ _ ?_; simp; done) | refine IHas.al ?_ _ | refine IHas.nx ?_ (drew_b _))

set_option maxRecDepth 100000 in
set_option maxHeartbeats 4000000 in
theorem handOut_any (w0 : World) (k m : Nat) (P L H : Nat → Int) (eo : Option Addr) (ecap b g rcap bm bU bV : Nat) (U V : Nat → Int) (hm : m ≤ 1000) (w : World) (hR : Room w0 k P eo m ecap L H b g rcap bm bU bV U V w) :
    Calls Try.prog 108 #[.pointer (some ⟨b, 0, none⟩)] w fun e w' => ∃ c d, e = .returned (.agg #[.slice (some ⟨c, 0, none⟩) m m, .slice (some ⟨d, 0, none⟩) m m]) ∧ w.heap.size ≤ c ∧ w.heap.size ≤ d ∧ c ≠ d ∧ IHas w' c m U ∧ IHas w' d m V ∧ w.heap.size + 2 ≤ w'.heap.size ∧ Below w.heap.size w w' := by
  have hmk := make_ints m (by omega)
  have hbl : b < w.heap.size := (Array.getElem?_eq_some_iff.1 hR.box).1
  have hul := hR.up.lt
  have hvl := hR.dn.lt
  have c0 : w.cell? ⟨b, 0, none⟩ = some (.slice eo m ecap) := hR.cell rfl
  go_enter Try.func108, Try.ntmps108
  go_wp2_with fail
  go_region_held3 (fun X : World => X.cell? ⟨b, 0, none⟩ = some (.slice eo m ecap))
    (first | assumption | (refine keep_cell (B := w.heap.size) (W := w) ?_ (Nat.le_refl _) c0; repeat (first | exact Below.refl _ _ | refine Below.alloc ?_ (by simp <;> omega) _ | refine Below.setCell ?_ (by simp <;> omega) _ | refine Below.drew ?_)))
    (fail)
  · generalize hWX : World.drew _ = X
    have hX : HO w m (w.heap.size + 1) (w.heap.size + 1 + 1) (w.heap.size + 1 + 1 + 1) X := by rw [← hWX]; exact ho_0 w m
    clear hWX
    generalize w.heap.size + 1 + 1 + 1 = bx at hX ⊢
    generalize w.heap.size + 1 + 1 = d at hX ⊢
    generalize w.heap.size + 1 = c at hX ⊢
    clear hmk
    have hge := hX.ge
    have hne := hX.ne
    have bD := below_next hX.bel (Nat.le_refl _) (drew_b X)
    have bxD := hX.box.next (drew_b X)
    have rsD := hX.res.next (drew_b X)
    have idD := hX.id.nx (drew_b X)
    obtain ⟨Y, hrun1, iY, hgY⟩ := run_copy_ints X.drew c m bU _ U (hX.ic.nx (drew_b X)) (hR.up.below bD hul) 3
    have x0 : X.drew.cell? ⟨bx, 0, none⟩ = some (.slice (some ⟨c, 0, none⟩) m m) := bxD.cell (j := 0) (by omega)
    have x3 : X.drew.cell? ⟨b, 3, none⟩ = some (.slice (some ⟨bU, 0, none⟩) m m) := keep_cell bD (Nat.le_refl _) (hR.cell rfl)
    have y0 := cell_turn x0 hgY (by omega)
    have y3 := cell_turn x3 hgY (by omega)
    have bY : Below w.heap.size w Y := below_far (B := w.heap.size) bD hgY (fun x e => by cases e; omega) (Nat.le_refl _)
    have bxY := bxD.grown hgY (by simp; omega)
    have rsY := rsD.grown hgY (by simp; omega)
    have idY := idD.grown hgY (by simp; omega)
    clear hX bD bxD rsD idD hgY
    go_wp2_with fail
    go_region_held3 (fun X : World => X.cell? ⟨bx, 0, none⟩ = some (.slice (some ⟨c, 0, none⟩) m m) ∧ X.cell? ⟨b, 3, none⟩ = some (.slice (some ⟨bU, 0, none⟩) m m))
      (first | exact ⟨y0, y3⟩ | exact ⟨x0, x3⟩ | assumption)
      (fail)
    clear x0 x3 y0 y3 hrun1
    have bD := below_next bY (Nat.le_refl _) (drew_b Y)
    have bxD := bxY.next (drew_b Y)
    have rsD := rsY.next (drew_b Y)
    have icD := iY.nx (drew_b Y)
    obtain ⟨Z, hrun1, iZ, hgZ⟩ := run_copy_ints Y.drew d m bV _ V (idY.nx (drew_b Y)) (hR.dn.below bD hvl) 3
    have x0 : Y.drew.cell? ⟨bx, 1, none⟩ = some (.slice (some ⟨d, 0, none⟩) m m) := bxD.cell (j := 1) (by omega)
    have x3 : Y.drew.cell? ⟨b, 4, none⟩ = some (.slice (some ⟨bV, 0, none⟩) m m) := keep_cell bD (Nat.le_refl _) (hR.cell rfl)
    have y0 := cell_turn x0 hgZ (by omega)
    have y3 := cell_turn x3 hgZ (by omega)
    have bZ : Below w.heap.size w Z := below_far (B := w.heap.size) bD hgZ (fun x e => by cases e; omega) (Nat.le_refl _)
    have bxZ := bxD.grown hgZ (by simp; omega)
    have rsZ := rsD.grown hgZ (by simp; omega)
    have icZ := icD.grown hgZ (by simp; omega)
    clear bD bxD rsD icD hgZ bY bxY rsY iY idY
    go_wp2_with fail
    go_region_held3 (fun X : World => X.cell? ⟨bx, 1, none⟩ = some (.slice (some ⟨d, 0, none⟩) m m) ∧ X.cell? ⟨b, 4, none⟩ = some (.slice (some ⟨bV, 0, none⟩) m m))
      (first | exact ⟨y0, y3⟩ | exact ⟨x0, x3⟩ | assumption)
      (fail)
    clear x0 x3 y0 y3 hrun1
    have x0 : Z.cell? ⟨bx, 0, none⟩ = some (.slice (some ⟨c, 0, none⟩) m m) := bxZ.cell (j := 0) (by omega)
    have x1 : Z.cell? ⟨bx, 1, none⟩ = some (.slice (some ⟨d, 0, none⟩) m m) := bxZ.cell (j := 1) (by omega)
    have r0 : Z.cell? ⟨w.heap.size, 0, none⟩ = some (.slice none 0 0) := rsZ.cell (j := 0) (by omega)
    have r1 : Z.cell? ⟨w.heap.size, 1, none⟩ = some (.slice none 0 0) := rsZ.cell (j := 1) (by omega)
    have z0 := rsZ.frozen 0
    have z1 := rsZ.frozen 1
    have hlx := bxZ.lt
    go_wp2
    have hB4 := ret_below bZ (s := w.heap.size) (Nat.le_refl _) (.slice (some ⟨c, 0, none⟩) m m) (.slice (some ⟨d, 0, none⟩) m m)
    have d0 : ((Z.setCell ⟨w.heap.size, 0, none⟩ (.slice (some ⟨c, 0, none⟩) m m)).setCell ⟨w.heap.size, 1, none⟩ (.slice (some ⟨d, 0, none⟩) m m)).cell? ⟨w.heap.size, 0, none⟩ = some (.slice (some ⟨c, 0, none⟩) m m) := by simp [go_sem, r0, r1]
    have d1 : ((Z.setCell ⟨w.heap.size, 0, none⟩ (.slice (some ⟨c, 0, none⟩) m m)).setCell ⟨w.heap.size, 1, none⟩ (.slice (some ⟨d, 0, none⟩) m m)).cell? ⟨w.heap.size, 1, none⟩ = some (.slice (some ⟨d, 0, none⟩) m m) := by simp [go_sem, r0, r1]
    have hU4 := icZ.of_block (ret_block (W := Z) (s := w.heap.size) (b := c) (.slice (some ⟨c, 0, none⟩) m m) (.slice (some ⟨d, 0, none⟩) m m) (by omega))
    have hV4 := iZ.of_block (ret_block (W := Z) (s := w.heap.size) (b := d) (.slice (some ⟨c, 0, none⟩) m m) (.slice (some ⟨d, 0, none⟩) m m) (by omega))
    have hs4 : w.heap.size + 2 ≤ ((Z.setCell ⟨w.heap.size, 0, none⟩ (.slice (some ⟨c, 0, none⟩) m m)).setCell ⟨w.heap.size, 1, none⟩ (.slice (some ⟨d, 0, none⟩) m m)).heap.size := by simp [World.setCell]; omega
    generalize ((Z.setCell ⟨w.heap.size, 0, none⟩ (.slice (some ⟨c, 0, none⟩) m m)).setCell ⟨w.heap.size, 1, none⟩ (.slice (some ⟨d, 0, none⟩) m m)) = W4 at hB4 d0 d1 hU4 hV4 hs4 ⊢
    clear bZ bxZ rsZ icZ iZ x0 x1 r0 r1 z0 z1
    simp [bodyPost, results, Try.results108, go_sem, d0, d1]
    exact ⟨c, d, by simp, by omega, by omega, by omega, hU4, hV4, hs4, hB4⟩
  · generalize hWX : World.drew _ = X
    have hX : HO w m (w.heap.size + 1) (w.heap.size + 1 + 1 + 1) (w.heap.size + 1 + 1) X := by rw [← hWX]; exact ho_1 w m
    clear hWX
    generalize w.heap.size + 1 + 1 + 1 = d at hX ⊢
    generalize w.heap.size + 1 + 1 = bx at hX ⊢
    generalize w.heap.size + 1 = c at hX ⊢
    clear hmk
    have hge := hX.ge
    have hne := hX.ne
    have bD := below_next hX.bel (Nat.le_refl _) (drew_b X)
    have bxD := hX.box.next (drew_b X)
    have rsD := hX.res.next (drew_b X)
    have idD := hX.id.nx (drew_b X)
    obtain ⟨Y, hrun1, iY, hgY⟩ := run_copy_ints X.drew c m bU _ U (hX.ic.nx (drew_b X)) (hR.up.below bD hul) 3
    have x0 : X.drew.cell? ⟨bx, 0, none⟩ = some (.slice (some ⟨c, 0, none⟩) m m) := bxD.cell (j := 0) (by omega)
    have x3 : X.drew.cell? ⟨b, 3, none⟩ = some (.slice (some ⟨bU, 0, none⟩) m m) := keep_cell bD (Nat.le_refl _) (hR.cell rfl)
    have y0 := cell_turn x0 hgY (by omega)
    have y3 := cell_turn x3 hgY (by omega)
    have bY : Below w.heap.size w Y := below_far (B := w.heap.size) bD hgY (fun x e => by cases e; omega) (Nat.le_refl _)
    have bxY := bxD.grown hgY (by simp; omega)
    have rsY := rsD.grown hgY (by simp; omega)
    have idY := idD.grown hgY (by simp; omega)
    clear hX bD bxD rsD idD hgY
    go_wp2_with fail
    go_region_held3 (fun X : World => X.cell? ⟨bx, 0, none⟩ = some (.slice (some ⟨c, 0, none⟩) m m) ∧ X.cell? ⟨b, 3, none⟩ = some (.slice (some ⟨bU, 0, none⟩) m m))
      (first | exact ⟨y0, y3⟩ | exact ⟨x0, x3⟩ | assumption)
      (fail)
    clear x0 x3 y0 y3 hrun1
    have bD := below_next bY (Nat.le_refl _) (drew_b Y)
    have bxD := bxY.next (drew_b Y)
    have rsD := rsY.next (drew_b Y)
    have icD := iY.nx (drew_b Y)
    obtain ⟨Z, hrun1, iZ, hgZ⟩ := run_copy_ints Y.drew d m bV _ V (idY.nx (drew_b Y)) (hR.dn.below bD hvl) 3
    have x0 : Y.drew.cell? ⟨bx, 1, none⟩ = some (.slice (some ⟨d, 0, none⟩) m m) := bxD.cell (j := 1) (by omega)
    have x3 : Y.drew.cell? ⟨b, 4, none⟩ = some (.slice (some ⟨bV, 0, none⟩) m m) := keep_cell bD (Nat.le_refl _) (hR.cell rfl)
    have y0 := cell_turn x0 hgZ (by omega)
    have y3 := cell_turn x3 hgZ (by omega)
    have bZ : Below w.heap.size w Z := below_far (B := w.heap.size) bD hgZ (fun x e => by cases e; omega) (Nat.le_refl _)
    have bxZ := bxD.grown hgZ (by simp; omega)
    have rsZ := rsD.grown hgZ (by simp; omega)
    have icZ := icD.grown hgZ (by simp; omega)
    clear bD bxD rsD icD hgZ bY bxY rsY iY idY
    go_wp2_with fail
    go_region_held3 (fun X : World => X.cell? ⟨bx, 1, none⟩ = some (.slice (some ⟨d, 0, none⟩) m m) ∧ X.cell? ⟨b, 4, none⟩ = some (.slice (some ⟨bV, 0, none⟩) m m))
      (first | exact ⟨y0, y3⟩ | exact ⟨x0, x3⟩ | assumption)
      (fail)
    clear x0 x3 y0 y3 hrun1
    have x0 : Z.cell? ⟨bx, 0, none⟩ = some (.slice (some ⟨c, 0, none⟩) m m) := bxZ.cell (j := 0) (by omega)
    have x1 : Z.cell? ⟨bx, 1, none⟩ = some (.slice (some ⟨d, 0, none⟩) m m) := bxZ.cell (j := 1) (by omega)
    have r0 : Z.cell? ⟨w.heap.size, 0, none⟩ = some (.slice none 0 0) := rsZ.cell (j := 0) (by omega)
    have r1 : Z.cell? ⟨w.heap.size, 1, none⟩ = some (.slice none 0 0) := rsZ.cell (j := 1) (by omega)
    have z0 := rsZ.frozen 0
    have z1 := rsZ.frozen 1
    have hlx := bxZ.lt
    go_wp2
    have hB4 := ret_below bZ (s := w.heap.size) (Nat.le_refl _) (.slice (some ⟨c, 0, none⟩) m m) (.slice (some ⟨d, 0, none⟩) m m)
    have d0 : ((Z.setCell ⟨w.heap.size, 0, none⟩ (.slice (some ⟨c, 0, none⟩) m m)).setCell ⟨w.heap.size, 1, none⟩ (.slice (some ⟨d, 0, none⟩) m m)).cell? ⟨w.heap.size, 0, none⟩ = some (.slice (some ⟨c, 0, none⟩) m m) := by simp [go_sem, r0, r1]
    have d1 : ((Z.setCell ⟨w.heap.size, 0, none⟩ (.slice (some ⟨c, 0, none⟩) m m)).setCell ⟨w.heap.size, 1, none⟩ (.slice (some ⟨d, 0, none⟩) m m)).cell? ⟨w.heap.size, 1, none⟩ = some (.slice (some ⟨d, 0, none⟩) m m) := by simp [go_sem, r0, r1]
    have hU4 := icZ.of_block (ret_block (W := Z) (s := w.heap.size) (b := c) (.slice (some ⟨c, 0, none⟩) m m) (.slice (some ⟨d, 0, none⟩) m m) (by omega))
    have hV4 := iZ.of_block (ret_block (W := Z) (s := w.heap.size) (b := d) (.slice (some ⟨c, 0, none⟩) m m) (.slice (some ⟨d, 0, none⟩) m m) (by omega))
    have hs4 : w.heap.size + 2 ≤ ((Z.setCell ⟨w.heap.size, 0, none⟩ (.slice (some ⟨c, 0, none⟩) m m)).setCell ⟨w.heap.size, 1, none⟩ (.slice (some ⟨d, 0, none⟩) m m)).heap.size := by simp [World.setCell]; omega
    generalize ((Z.setCell ⟨w.heap.size, 0, none⟩ (.slice (some ⟨c, 0, none⟩) m m)).setCell ⟨w.heap.size, 1, none⟩ (.slice (some ⟨d, 0, none⟩) m m)) = W4 at hB4 d0 d1 hU4 hV4 hs4 ⊢
    clear bZ bxZ rsZ icZ iZ x0 x1 r0 r1 z0 z1
    simp [bodyPost, results, Try.results108, go_sem, d0, d1]
    exact ⟨c, d, by simp, by omega, by omega, by omega, hU4, hV4, hs4, hB4⟩
  · generalize hWX : World.drew _ = X
    have hX : HO w m (w.heap.size + 1 + 1) (w.heap.size + 1) (w.heap.size + 1 + 1 + 1) X := by rw [← hWX]; exact ho_2 w m
    clear hWX
    generalize w.heap.size + 1 + 1 + 1 = bx at hX ⊢
    generalize w.heap.size + 1 + 1 = c at hX ⊢
    generalize w.heap.size + 1 = d at hX ⊢
    clear hmk
    have hge := hX.ge
    have hne := hX.ne
    have bD := below_next hX.bel (Nat.le_refl _) (drew_b X)
    have bxD := hX.box.next (drew_b X)
    have rsD := hX.res.next (drew_b X)
    have idD := hX.id.nx (drew_b X)
    obtain ⟨Y, hrun1, iY, hgY⟩ := run_copy_ints X.drew c m bU _ U (hX.ic.nx (drew_b X)) (hR.up.below bD hul) 3
    have x0 : X.drew.cell? ⟨bx, 0, none⟩ = some (.slice (some ⟨c, 0, none⟩) m m) := bxD.cell (j := 0) (by omega)
    have x3 : X.drew.cell? ⟨b, 3, none⟩ = some (.slice (some ⟨bU, 0, none⟩) m m) := keep_cell bD (Nat.le_refl _) (hR.cell rfl)
    have y0 := cell_turn x0 hgY (by omega)
    have y3 := cell_turn x3 hgY (by omega)
    have bY : Below w.heap.size w Y := below_far (B := w.heap.size) bD hgY (fun x e => by cases e; omega) (Nat.le_refl _)
    have bxY := bxD.grown hgY (by simp; omega)
    have rsY := rsD.grown hgY (by simp; omega)
    have idY := idD.grown hgY (by simp; omega)
    clear hX bD bxD rsD idD hgY
    go_wp2_with fail
    go_region_held3 (fun X : World => X.cell? ⟨bx, 0, none⟩ = some (.slice (some ⟨c, 0, none⟩) m m) ∧ X.cell? ⟨b, 3, none⟩ = some (.slice (some ⟨bU, 0, none⟩) m m))
      (first | exact ⟨y0, y3⟩ | exact ⟨x0, x3⟩ | assumption)
      (fail)
    clear x0 x3 y0 y3 hrun1
    have bD := below_next bY (Nat.le_refl _) (drew_b Y)
    have bxD := bxY.next (drew_b Y)
    have rsD := rsY.next (drew_b Y)
    have icD := iY.nx (drew_b Y)
    obtain ⟨Z, hrun1, iZ, hgZ⟩ := run_copy_ints Y.drew d m bV _ V (idY.nx (drew_b Y)) (hR.dn.below bD hvl) 3
    have x0 : Y.drew.cell? ⟨bx, 1, none⟩ = some (.slice (some ⟨d, 0, none⟩) m m) := bxD.cell (j := 1) (by omega)
    have x3 : Y.drew.cell? ⟨b, 4, none⟩ = some (.slice (some ⟨bV, 0, none⟩) m m) := keep_cell bD (Nat.le_refl _) (hR.cell rfl)
    have y0 := cell_turn x0 hgZ (by omega)
    have y3 := cell_turn x3 hgZ (by omega)
    have bZ : Below w.heap.size w Z := below_far (B := w.heap.size) bD hgZ (fun x e => by cases e; omega) (Nat.le_refl _)
    have bxZ := bxD.grown hgZ (by simp; omega)
    have rsZ := rsD.grown hgZ (by simp; omega)
    have icZ := icD.grown hgZ (by simp; omega)
    clear bD bxD rsD icD hgZ bY bxY rsY iY idY
    go_wp2_with fail
    go_region_held3 (fun X : World => X.cell? ⟨bx, 1, none⟩ = some (.slice (some ⟨d, 0, none⟩) m m) ∧ X.cell? ⟨b, 4, none⟩ = some (.slice (some ⟨bV, 0, none⟩) m m))
      (first | exact ⟨y0, y3⟩ | exact ⟨x0, x3⟩ | assumption)
      (fail)
    clear x0 x3 y0 y3 hrun1
    have x0 : Z.cell? ⟨bx, 0, none⟩ = some (.slice (some ⟨c, 0, none⟩) m m) := bxZ.cell (j := 0) (by omega)
    have x1 : Z.cell? ⟨bx, 1, none⟩ = some (.slice (some ⟨d, 0, none⟩) m m) := bxZ.cell (j := 1) (by omega)
    have r0 : Z.cell? ⟨w.heap.size, 0, none⟩ = some (.slice none 0 0) := rsZ.cell (j := 0) (by omega)
    have r1 : Z.cell? ⟨w.heap.size, 1, none⟩ = some (.slice none 0 0) := rsZ.cell (j := 1) (by omega)
    have z0 := rsZ.frozen 0
    have z1 := rsZ.frozen 1
    have hlx := bxZ.lt
    go_wp2
    have hB4 := ret_below bZ (s := w.heap.size) (Nat.le_refl _) (.slice (some ⟨c, 0, none⟩) m m) (.slice (some ⟨d, 0, none⟩) m m)
    have d0 : ((Z.setCell ⟨w.heap.size, 0, none⟩ (.slice (some ⟨c, 0, none⟩) m m)).setCell ⟨w.heap.size, 1, none⟩ (.slice (some ⟨d, 0, none⟩) m m)).cell? ⟨w.heap.size, 0, none⟩ = some (.slice (some ⟨c, 0, none⟩) m m) := by simp [go_sem, r0, r1]
    have d1 : ((Z.setCell ⟨w.heap.size, 0, none⟩ (.slice (some ⟨c, 0, none⟩) m m)).setCell ⟨w.heap.size, 1, none⟩ (.slice (some ⟨d, 0, none⟩) m m)).cell? ⟨w.heap.size, 1, none⟩ = some (.slice (some ⟨d, 0, none⟩) m m) := by simp [go_sem, r0, r1]
    have hU4 := icZ.of_block (ret_block (W := Z) (s := w.heap.size) (b := c) (.slice (some ⟨c, 0, none⟩) m m) (.slice (some ⟨d, 0, none⟩) m m) (by omega))
    have hV4 := iZ.of_block (ret_block (W := Z) (s := w.heap.size) (b := d) (.slice (some ⟨c, 0, none⟩) m m) (.slice (some ⟨d, 0, none⟩) m m) (by omega))
    have hs4 : w.heap.size + 2 ≤ ((Z.setCell ⟨w.heap.size, 0, none⟩ (.slice (some ⟨c, 0, none⟩) m m)).setCell ⟨w.heap.size, 1, none⟩ (.slice (some ⟨d, 0, none⟩) m m)).heap.size := by simp [World.setCell]; omega
    generalize ((Z.setCell ⟨w.heap.size, 0, none⟩ (.slice (some ⟨c, 0, none⟩) m m)).setCell ⟨w.heap.size, 1, none⟩ (.slice (some ⟨d, 0, none⟩) m m)) = W4 at hB4 d0 d1 hU4 hV4 hs4 ⊢
    clear bZ bxZ rsZ icZ iZ x0 x1 r0 r1 z0 z1
    simp [bodyPost, results, Try.results108, go_sem, d0, d1]
    exact ⟨c, d, by simp, by omega, by omega, by omega, hU4, hV4, hs4, hB4⟩
  · generalize hWX : World.drew _ = X
    have hX : HO w m (w.heap.size + 1 + 1 + 1) (w.heap.size + 1) (w.heap.size + 1 + 1) X := by rw [← hWX]; exact ho_3 w m
    clear hWX
    generalize w.heap.size + 1 + 1 + 1 = c at hX ⊢
    generalize w.heap.size + 1 + 1 = bx at hX ⊢
    generalize w.heap.size + 1 = d at hX ⊢
    clear hmk
    have hge := hX.ge
    have hne := hX.ne
    have bD := below_next hX.bel (Nat.le_refl _) (drew_b X)
    have bxD := hX.box.next (drew_b X)
    have rsD := hX.res.next (drew_b X)
    have idD := hX.id.nx (drew_b X)
    obtain ⟨Y, hrun1, iY, hgY⟩ := run_copy_ints X.drew c m bU _ U (hX.ic.nx (drew_b X)) (hR.up.below bD hul) 3
    have x0 : X.drew.cell? ⟨bx, 0, none⟩ = some (.slice (some ⟨c, 0, none⟩) m m) := bxD.cell (j := 0) (by omega)
    have x3 : X.drew.cell? ⟨b, 3, none⟩ = some (.slice (some ⟨bU, 0, none⟩) m m) := keep_cell bD (Nat.le_refl _) (hR.cell rfl)
    have y0 := cell_turn x0 hgY (by omega)
    have y3 := cell_turn x3 hgY (by omega)
    have bY : Below w.heap.size w Y := below_far (B := w.heap.size) bD hgY (fun x e => by cases e; omega) (Nat.le_refl _)
    have bxY := bxD.grown hgY (by simp; omega)
    have rsY := rsD.grown hgY (by simp; omega)
    have idY := idD.grown hgY (by simp; omega)
    clear hX bD bxD rsD idD hgY
    go_wp2_with fail
    go_region_held3 (fun X : World => X.cell? ⟨bx, 0, none⟩ = some (.slice (some ⟨c, 0, none⟩) m m) ∧ X.cell? ⟨b, 3, none⟩ = some (.slice (some ⟨bU, 0, none⟩) m m))
      (first | exact ⟨y0, y3⟩ | exact ⟨x0, x3⟩ | assumption)
      (fail)
    clear x0 x3 y0 y3 hrun1
    have bD := below_next bY (Nat.le_refl _) (drew_b Y)
    have bxD := bxY.next (drew_b Y)
    have rsD := rsY.next (drew_b Y)
    have icD := iY.nx (drew_b Y)
    obtain ⟨Z, hrun1, iZ, hgZ⟩ := run_copy_ints Y.drew d m bV _ V (idY.nx (drew_b Y)) (hR.dn.below bD hvl) 3
    have x0 : Y.drew.cell? ⟨bx, 1, none⟩ = some (.slice (some ⟨d, 0, none⟩) m m) := bxD.cell (j := 1) (by omega)
    have x3 : Y.drew.cell? ⟨b, 4, none⟩ = some (.slice (some ⟨bV, 0, none⟩) m m) := keep_cell bD (Nat.le_refl _) (hR.cell rfl)
    have y0 := cell_turn x0 hgZ (by omega)
    have y3 := cell_turn x3 hgZ (by omega)
    have bZ : Below w.heap.size w Z := below_far (B := w.heap.size) bD hgZ (fun x e => by cases e; omega) (Nat.le_refl _)
    have bxZ := bxD.grown hgZ (by simp; omega)
    have rsZ := rsD.grown hgZ (by simp; omega)
    have icZ := icD.grown hgZ (by simp; omega)
    clear bD bxD rsD icD hgZ bY bxY rsY iY idY
    go_wp2_with fail
    go_region_held3 (fun X : World => X.cell? ⟨bx, 1, none⟩ = some (.slice (some ⟨d, 0, none⟩) m m) ∧ X.cell? ⟨b, 4, none⟩ = some (.slice (some ⟨bV, 0, none⟩) m m))
      (first | exact ⟨y0, y3⟩ | exact ⟨x0, x3⟩ | assumption)
      (fail)
    clear x0 x3 y0 y3 hrun1
    have x0 : Z.cell? ⟨bx, 0, none⟩ = some (.slice (some ⟨c, 0, none⟩) m m) := bxZ.cell (j := 0) (by omega)
    have x1 : Z.cell? ⟨bx, 1, none⟩ = some (.slice (some ⟨d, 0, none⟩) m m) := bxZ.cell (j := 1) (by omega)
    have r0 : Z.cell? ⟨w.heap.size, 0, none⟩ = some (.slice none 0 0) := rsZ.cell (j := 0) (by omega)
    have r1 : Z.cell? ⟨w.heap.size, 1, none⟩ = some (.slice none 0 0) := rsZ.cell (j := 1) (by omega)
    have z0 := rsZ.frozen 0
    have z1 := rsZ.frozen 1
    have hlx := bxZ.lt
    go_wp2
    have hB4 := ret_below bZ (s := w.heap.size) (Nat.le_refl _) (.slice (some ⟨c, 0, none⟩) m m) (.slice (some ⟨d, 0, none⟩) m m)
    have d0 : ((Z.setCell ⟨w.heap.size, 0, none⟩ (.slice (some ⟨c, 0, none⟩) m m)).setCell ⟨w.heap.size, 1, none⟩ (.slice (some ⟨d, 0, none⟩) m m)).cell? ⟨w.heap.size, 0, none⟩ = some (.slice (some ⟨c, 0, none⟩) m m) := by simp [go_sem, r0, r1]
    have d1 : ((Z.setCell ⟨w.heap.size, 0, none⟩ (.slice (some ⟨c, 0, none⟩) m m)).setCell ⟨w.heap.size, 1, none⟩ (.slice (some ⟨d, 0, none⟩) m m)).cell? ⟨w.heap.size, 1, none⟩ = some (.slice (some ⟨d, 0, none⟩) m m) := by simp [go_sem, r0, r1]
    have hU4 := icZ.of_block (ret_block (W := Z) (s := w.heap.size) (b := c) (.slice (some ⟨c, 0, none⟩) m m) (.slice (some ⟨d, 0, none⟩) m m) (by omega))
    have hV4 := iZ.of_block (ret_block (W := Z) (s := w.heap.size) (b := d) (.slice (some ⟨c, 0, none⟩) m m) (.slice (some ⟨d, 0, none⟩) m m) (by omega))
    have hs4 : w.heap.size + 2 ≤ ((Z.setCell ⟨w.heap.size, 0, none⟩ (.slice (some ⟨c, 0, none⟩) m m)).setCell ⟨w.heap.size, 1, none⟩ (.slice (some ⟨d, 0, none⟩) m m)).heap.size := by simp [World.setCell]; omega
    generalize ((Z.setCell ⟨w.heap.size, 0, none⟩ (.slice (some ⟨c, 0, none⟩) m m)).setCell ⟨w.heap.size, 1, none⟩ (.slice (some ⟨d, 0, none⟩) m m)) = W4 at hB4 d0 d1 hU4 hV4 hs4 ⊢
    clear bZ bxZ rsZ icZ iZ x0 x1 r0 r1 z0 z1
    simp [bodyPost, results, Try.results108, go_sem, d0, d1]
    exact ⟨c, d, by simp, by omega, by omega, by omega, hU4, hV4, hs4, hB4⟩
  · generalize hWX : World.drew _ = X
    have hX : HO w m (w.heap.size + 1 + 1) (w.heap.size + 1 + 1 + 1) (w.heap.size + 1) X := by rw [← hWX]; exact ho_4 w m
    clear hWX
    generalize w.heap.size + 1 + 1 + 1 = d at hX ⊢
    generalize w.heap.size + 1 + 1 = c at hX ⊢
    generalize w.heap.size + 1 = bx at hX ⊢
    clear hmk
    have hge := hX.ge
    have hne := hX.ne
    have bD := below_next hX.bel (Nat.le_refl _) (drew_b X)
    have bxD := hX.box.next (drew_b X)
    have rsD := hX.res.next (drew_b X)
    have idD := hX.id.nx (drew_b X)
    obtain ⟨Y, hrun1, iY, hgY⟩ := run_copy_ints X.drew c m bU _ U (hX.ic.nx (drew_b X)) (hR.up.below bD hul) 3
    have x0 : X.drew.cell? ⟨bx, 0, none⟩ = some (.slice (some ⟨c, 0, none⟩) m m) := bxD.cell (j := 0) (by omega)
    have x3 : X.drew.cell? ⟨b, 3, none⟩ = some (.slice (some ⟨bU, 0, none⟩) m m) := keep_cell bD (Nat.le_refl _) (hR.cell rfl)
    have y0 := cell_turn x0 hgY (by omega)
    have y3 := cell_turn x3 hgY (by omega)
    have bY : Below w.heap.size w Y := below_far (B := w.heap.size) bD hgY (fun x e => by cases e; omega) (Nat.le_refl _)
    have bxY := bxD.grown hgY (by simp; omega)
    have rsY := rsD.grown hgY (by simp; omega)
    have idY := idD.grown hgY (by simp; omega)
    clear hX bD bxD rsD idD hgY
    go_wp2_with fail
    go_region_held3 (fun X : World => X.cell? ⟨bx, 0, none⟩ = some (.slice (some ⟨c, 0, none⟩) m m) ∧ X.cell? ⟨b, 3, none⟩ = some (.slice (some ⟨bU, 0, none⟩) m m))
      (first | exact ⟨y0, y3⟩ | exact ⟨x0, x3⟩ | assumption)
      (fail)
    clear x0 x3 y0 y3 hrun1
    have bD := below_next bY (Nat.le_refl _) (drew_b Y)
    have bxD := bxY.next (drew_b Y)
    have rsD := rsY.next (drew_b Y)
    have icD := iY.nx (drew_b Y)
    obtain ⟨Z, hrun1, iZ, hgZ⟩ := run_copy_ints Y.drew d m bV _ V (idY.nx (drew_b Y)) (hR.dn.below bD hvl) 3
    have x0 : Y.drew.cell? ⟨bx, 1, none⟩ = some (.slice (some ⟨d, 0, none⟩) m m) := bxD.cell (j := 1) (by omega)
    have x3 : Y.drew.cell? ⟨b, 4, none⟩ = some (.slice (some ⟨bV, 0, none⟩) m m) := keep_cell bD (Nat.le_refl _) (hR.cell rfl)
    have y0 := cell_turn x0 hgZ (by omega)
    have y3 := cell_turn x3 hgZ (by omega)
    have bZ : Below w.heap.size w Z := below_far (B := w.heap.size) bD hgZ (fun x e => by cases e; omega) (Nat.le_refl _)
    have bxZ := bxD.grown hgZ (by simp; omega)
    have rsZ := rsD.grown hgZ (by simp; omega)
    have icZ := icD.grown hgZ (by simp; omega)
    clear bD bxD rsD icD hgZ bY bxY rsY iY idY
    go_wp2_with fail
    go_region_held3 (fun X : World => X.cell? ⟨bx, 1, none⟩ = some (.slice (some ⟨d, 0, none⟩) m m) ∧ X.cell? ⟨b, 4, none⟩ = some (.slice (some ⟨bV, 0, none⟩) m m))
      (first | exact ⟨y0, y3⟩ | exact ⟨x0, x3⟩ | assumption)
      (fail)
    clear x0 x3 y0 y3 hrun1
    have x0 : Z.cell? ⟨bx, 0, none⟩ = some (.slice (some ⟨c, 0, none⟩) m m) := bxZ.cell (j := 0) (by omega)
    have x1 : Z.cell? ⟨bx, 1, none⟩ = some (.slice (some ⟨d, 0, none⟩) m m) := bxZ.cell (j := 1) (by omega)
    have r0 : Z.cell? ⟨w.heap.size, 0, none⟩ = some (.slice none 0 0) := rsZ.cell (j := 0) (by omega)
    have r1 : Z.cell? ⟨w.heap.size, 1, none⟩ = some (.slice none 0 0) := rsZ.cell (j := 1) (by omega)
    have z0 := rsZ.frozen 0
    have z1 := rsZ.frozen 1
    have hlx := bxZ.lt
    go_wp2
    have hB4 := ret_below bZ (s := w.heap.size) (Nat.le_refl _) (.slice (some ⟨c, 0, none⟩) m m) (.slice (some ⟨d, 0, none⟩) m m)
    have d0 : ((Z.setCell ⟨w.heap.size, 0, none⟩ (.slice (some ⟨c, 0, none⟩) m m)).setCell ⟨w.heap.size, 1, none⟩ (.slice (some ⟨d, 0, none⟩) m m)).cell? ⟨w.heap.size, 0, none⟩ = some (.slice (some ⟨c, 0, none⟩) m m) := by simp [go_sem, r0, r1]
    have d1 : ((Z.setCell ⟨w.heap.size, 0, none⟩ (.slice (some ⟨c, 0, none⟩) m m)).setCell ⟨w.heap.size, 1, none⟩ (.slice (some ⟨d, 0, none⟩) m m)).cell? ⟨w.heap.size, 1, none⟩ = some (.slice (some ⟨d, 0, none⟩) m m) := by simp [go_sem, r0, r1]
    have hU4 := icZ.of_block (ret_block (W := Z) (s := w.heap.size) (b := c) (.slice (some ⟨c, 0, none⟩) m m) (.slice (some ⟨d, 0, none⟩) m m) (by omega))
    have hV4 := iZ.of_block (ret_block (W := Z) (s := w.heap.size) (b := d) (.slice (some ⟨c, 0, none⟩) m m) (.slice (some ⟨d, 0, none⟩) m m) (by omega))
    have hs4 : w.heap.size + 2 ≤ ((Z.setCell ⟨w.heap.size, 0, none⟩ (.slice (some ⟨c, 0, none⟩) m m)).setCell ⟨w.heap.size, 1, none⟩ (.slice (some ⟨d, 0, none⟩) m m)).heap.size := by simp [World.setCell]; omega
    generalize ((Z.setCell ⟨w.heap.size, 0, none⟩ (.slice (some ⟨c, 0, none⟩) m m)).setCell ⟨w.heap.size, 1, none⟩ (.slice (some ⟨d, 0, none⟩) m m)) = W4 at hB4 d0 d1 hU4 hV4 hs4 ⊢
    clear bZ bxZ rsZ icZ iZ x0 x1 r0 r1 z0 z1
    simp [bodyPost, results, Try.results108, go_sem, d0, d1]
    exact ⟨c, d, by simp, by omega, by omega, by omega, hU4, hV4, hs4, hB4⟩
  · generalize hWX : World.drew _ = X
    have hX : HO w m (w.heap.size + 1 + 1 + 1) (w.heap.size + 1 + 1) (w.heap.size + 1) X := by rw [← hWX]; exact ho_5 w m
    clear hWX
    generalize w.heap.size + 1 + 1 + 1 = c at hX ⊢
    generalize w.heap.size + 1 + 1 = d at hX ⊢
    generalize w.heap.size + 1 = bx at hX ⊢
    clear hmk
    have hge := hX.ge
    have hne := hX.ne
    have bD := below_next hX.bel (Nat.le_refl _) (drew_b X)
    have bxD := hX.box.next (drew_b X)
    have rsD := hX.res.next (drew_b X)
    have idD := hX.id.nx (drew_b X)
    obtain ⟨Y, hrun1, iY, hgY⟩ := run_copy_ints X.drew c m bU _ U (hX.ic.nx (drew_b X)) (hR.up.below bD hul) 3
    have x0 : X.drew.cell? ⟨bx, 0, none⟩ = some (.slice (some ⟨c, 0, none⟩) m m) := bxD.cell (j := 0) (by omega)
    have x3 : X.drew.cell? ⟨b, 3, none⟩ = some (.slice (some ⟨bU, 0, none⟩) m m) := keep_cell bD (Nat.le_refl _) (hR.cell rfl)
    have y0 := cell_turn x0 hgY (by omega)
    have y3 := cell_turn x3 hgY (by omega)
    have bY : Below w.heap.size w Y := below_far (B := w.heap.size) bD hgY (fun x e => by cases e; omega) (Nat.le_refl _)
    have bxY := bxD.grown hgY (by simp; omega)
    have rsY := rsD.grown hgY (by simp; omega)
    have idY := idD.grown hgY (by simp; omega)
    clear hX bD bxD rsD idD hgY
    go_wp2_with fail
    go_region_held3 (fun X : World => X.cell? ⟨bx, 0, none⟩ = some (.slice (some ⟨c, 0, none⟩) m m) ∧ X.cell? ⟨b, 3, none⟩ = some (.slice (some ⟨bU, 0, none⟩) m m))
      (first | exact ⟨y0, y3⟩ | exact ⟨x0, x3⟩ | assumption)
      (fail)
    clear x0 x3 y0 y3 hrun1
    have bD := below_next bY (Nat.le_refl _) (drew_b Y)
    have bxD := bxY.next (drew_b Y)
    have rsD := rsY.next (drew_b Y)
    have icD := iY.nx (drew_b Y)
    obtain ⟨Z, hrun1, iZ, hgZ⟩ := run_copy_ints Y.drew d m bV _ V (idY.nx (drew_b Y)) (hR.dn.below bD hvl) 3
    have x0 : Y.drew.cell? ⟨bx, 1, none⟩ = some (.slice (some ⟨d, 0, none⟩) m m) := bxD.cell (j := 1) (by omega)
    have x3 : Y.drew.cell? ⟨b, 4, none⟩ = some (.slice (some ⟨bV, 0, none⟩) m m) := keep_cell bD (Nat.le_refl _) (hR.cell rfl)
    have y0 := cell_turn x0 hgZ (by omega)
    have y3 := cell_turn x3 hgZ (by omega)
    have bZ : Below w.heap.size w Z := below_far (B := w.heap.size) bD hgZ (fun x e => by cases e; omega) (Nat.le_refl _)
    have bxZ := bxD.grown hgZ (by simp; omega)
    have rsZ := rsD.grown hgZ (by simp; omega)
    have icZ := icD.grown hgZ (by simp; omega)
    clear bD bxD rsD icD hgZ bY bxY rsY iY idY
    go_wp2_with fail
    go_region_held3 (fun X : World => X.cell? ⟨bx, 1, none⟩ = some (.slice (some ⟨d, 0, none⟩) m m) ∧ X.cell? ⟨b, 4, none⟩ = some (.slice (some ⟨bV, 0, none⟩) m m))
      (first | exact ⟨y0, y3⟩ | exact ⟨x0, x3⟩ | assumption)
      (fail)
    clear x0 x3 y0 y3 hrun1
    have x0 : Z.cell? ⟨bx, 0, none⟩ = some (.slice (some ⟨c, 0, none⟩) m m) := bxZ.cell (j := 0) (by omega)
    have x1 : Z.cell? ⟨bx, 1, none⟩ = some (.slice (some ⟨d, 0, none⟩) m m) := bxZ.cell (j := 1) (by omega)
    have r0 : Z.cell? ⟨w.heap.size, 0, none⟩ = some (.slice none 0 0) := rsZ.cell (j := 0) (by omega)
    have r1 : Z.cell? ⟨w.heap.size, 1, none⟩ = some (.slice none 0 0) := rsZ.cell (j := 1) (by omega)
    have z0 := rsZ.frozen 0
    have z1 := rsZ.frozen 1
    have hlx := bxZ.lt
    go_wp2
    have hB4 := ret_below bZ (s := w.heap.size) (Nat.le_refl _) (.slice (some ⟨c, 0, none⟩) m m) (.slice (some ⟨d, 0, none⟩) m m)
    have d0 : ((Z.setCell ⟨w.heap.size, 0, none⟩ (.slice (some ⟨c, 0, none⟩) m m)).setCell ⟨w.heap.size, 1, none⟩ (.slice (some ⟨d, 0, none⟩) m m)).cell? ⟨w.heap.size, 0, none⟩ = some (.slice (some ⟨c, 0, none⟩) m m) := by simp [go_sem, r0, r1]
    have d1 : ((Z.setCell ⟨w.heap.size, 0, none⟩ (.slice (some ⟨c, 0, none⟩) m m)).setCell ⟨w.heap.size, 1, none⟩ (.slice (some ⟨d, 0, none⟩) m m)).cell? ⟨w.heap.size, 1, none⟩ = some (.slice (some ⟨d, 0, none⟩) m m) := by simp [go_sem, r0, r1]
    have hU4 := icZ.of_block (ret_block (W := Z) (s := w.heap.size) (b := c) (.slice (some ⟨c, 0, none⟩) m m) (.slice (some ⟨d, 0, none⟩) m m) (by omega))
    have hV4 := iZ.of_block (ret_block (W := Z) (s := w.heap.size) (b := d) (.slice (some ⟨c, 0, none⟩) m m) (.slice (some ⟨d, 0, none⟩) m m) (by omega))
    have hs4 : w.heap.size + 2 ≤ ((Z.setCell ⟨w.heap.size, 0, none⟩ (.slice (some ⟨c, 0, none⟩) m m)).setCell ⟨w.heap.size, 1, none⟩ (.slice (some ⟨d, 0, none⟩) m m)).heap.size := by simp [World.setCell]; omega
    generalize ((Z.setCell ⟨w.heap.size, 0, none⟩ (.slice (some ⟨c, 0, none⟩) m m)).setCell ⟨w.heap.size, 1, none⟩ (.slice (some ⟨d, 0, none⟩) m m)) = W4 at hB4 d0 d1 hU4 hV4 hs4 ⊢
    clear bZ bxZ rsZ icZ iZ x0 x1 r0 r1 z0 z1
    simp [bodyPost, results, Try.results108, go_sem, d0, d1]
    exact ⟨c, d, by simp, by omega, by omega, by omega, hU4, hV4, hs4, hB4⟩

end Go.Proofs.Yteibbknpcgcjjab

/-
  WeightOf: the document's and the program's, each held against one plain function of the arcs.
-/
set_option linter.unusedVariables false
set_option linter.unusedSimpArgs false
namespace Go.Proofs.Yteibbknpcgcjjab
open Go.RowKit Go.Maps

def wOf (p : Int) (n : Nat) (F T G : Nat → Int) (a b : Int) : Int := if graphB p n F T G then lastW F T G a b n else 1000000000000
theorem wf_small {p : Int} {F T G : Nat → Int} {n : Nat} (hp : inB p 1 24 = true) (h : arcsB p F T G n = true) : WfTo F T n := fun k hk => by
  have := (arcsB_each n h k hk).1
  simp [arcB, inB] at this hp
  exact ⟨WalkArith.wf_i64 (by omega), WalkArith.wf_i64 (by omega)⟩

end Go.Proofs.Yteibbknpcgcjjab

/-
  Length: the document's, held against one plain function of the arcs and the path.
-/
set_option linter.unusedVariables false
set_option linter.unusedSimpArgs false
namespace Go.Proofs.Yteibbknpcgcjjab
open Go.RowKit Go.Maps
attribute [local go_sem ↓] Go.wp_at_zero Go.wp_at_succ

def allIn (p : Int) (P : Nat → Int) : Nat → Bool
  | 0 => true
  | k + 1 => allIn p P k && inB (P k) 0 (p - 1)
def ps (n : Nat) (F T G P : Nat → Int) : Nat → Int
  | 0 => 0
  | k + 1 => min 1000000000000 (ps n F T G P k + lastW F T G (P k) (P (k + 1)) n)
def lenOf (p : Int) (n : Nat) (F T G : Nat → Int) (m : Nat) (P : Nat → Int) : Int :=
  if graphB p n F T G = true ∧ 1 ≤ m ∧ m ≤ 200 ∧ allIn p P m = true then ps n F T G P (m - 1) else 1000000000000

theorem allIn_each {p : Int} {P : Nat → Int} : ∀ m, allIn p P m = true → ∀ k, k < m → inB (P k) 0 (p - 1) = true
  | 0, _, k, hk => by omega
  | m + 1, h, k, hk => by
    simp [allIn] at h
    by_cases e : k = m
    · subst e; exact h.2
    · exact allIn_each m h.1 k (by omega)
theorem allIn_no {p : Int} {P : Nat → Int} {k : Nat} (h : inB (P k) 0 (p - 1) = false) : ∀ m, k < m → allIn p P m = false
  | 0, hk => by omega
  | m + 1, hk => by
    by_cases e : k = m
    · subst e; simp [allIn, h]
    · simp [allIn, allIn_no h m (by omega)]
theorem lastW_lo {p : Int} {F T G : Nat → Int} {n : Nat} (h : arcsB p F T G n = true) (a b : Int) : ∀ m, m ≤ n → 0 ≤ lastW F T G a b m ∧ lastW F T G a b m ≤ 1000000000000
  | 0, _ => by simp [lastW]
  | m + 1, hm => by
    unfold lastW
    split
    · have := (arcsB_each n h m (by omega)).1
      simp [arcB, inB] at this
      omega
    · exact lastW_lo h a b m (by omega)
theorem ps_lo {p : Int} {F T G : Nat → Int} {n : Nat} (h : arcsB p F T G n = true) (P : Nat → Int) : ∀ k, 0 ≤ ps n F T G P k ∧ ps n F T G P k ≤ 1000000000000
  | 0 => by simp [ps]
  | k + 1 => by
    have h1 := ps_lo h P k
    have h2 := lastW_lo h (P k) (P (k + 1)) n (Nat.le_refl _)
    unfold ps
    omega
theorem ps_far {p : Int} {F T G : Nat → Int} {n : Nat} (h : arcsB p F T G n = true) (P : Nat → Int) {j : Nat} (hj : lastW F T G (P j) (P (j + 1)) n = 1000000000000) : ∀ k, j < k → ps n F T G P k = 1000000000000
  | 0, hk => by omega
  | k + 1, hk => by
    have h1 := ps_lo h P k
    have h2 := lastW_lo h (P k) (P (k + 1)) n (Nat.le_refl _)
    unfold ps
    by_cases e : j = k
    · subst e; omega
    · rw [ps_far h P hj k (by omega)]; omega
theorem lenOf_far {p : Int} {n : Nat} {F T G : Nat → Int} {m : Nat} {P : Nat → Int} (h : ¬ (graphB p n F T G = true ∧ 1 ≤ m ∧ m ≤ 200 ∧ allIn p P m = true)) : lenOf p n F T G m P = 1000000000000 := by unfold lenOf; rw [if_neg h]

end Go.Proofs.Yteibbknpcgcjjab

/-
  Two metrics held against each other, the document's way.
-/
set_option linter.unusedVariables false
set_option linter.unusedSimpArgs false
namespace Go.Proofs.Yteibbknpcgcjjab
open Go.RowKit Go.Deep Go.Joins
attribute [local go_sem ↓] Go.wp_at_zero Go.wp_at_succ

set_option maxRecDepth 100000 in
set_option maxHeartbeats 2000000 in
theorem l5Same_any (ao : Option Addr) (n acap : Nat) (f : Nat → Int) (bo : Option Addr) (m bcap : Nat) (g : Nat → Int) (co : Option Addr) (u ccap : Nat) (f' : Nat → Int) (dO : Option Addr) (v dcap : Nat) (g' : Nat → Int) (hn : n ≤ 1048576) (hm : m ≤ 1048576) (hu : u ≤ 1048576) (hv : v ≤ 1048576) (w : World) (ha : IRow w ao n f) (hb : IRow w bo m g) (hc : IRow w co u f') (hd : IRow w dO v g') :
    Calls Try.prog 94 #[.agg #[.slice ao n acap, .slice bo m bcap], .agg #[.slice co u ccap, .slice dO v dcap]] w fun e w' => BAns e (SameI n u f f' ∧ SameI m v g g') ∧ Below w.heap.size w w' := by
  have hB0 : Below w.heap.size w ((w.alloc (.cells #[.slice ao n acap, .slice bo m bcap] 42)).alloc (.cells #[.slice co u ccap, .slice dO v dcap] 42)) := ((Below.refl _ w).alloc (Nat.le_refl _) _).alloc (by simp) _
  by_cases h1 : (n : Int) = (u : Int)
  rotate_left
  · have HN : Hid (¬ (SameI n u f f' ∧ SameI m v g g')) := fun x => h1 (by have := x.1.1; omega)
    go_enter Try.func94, Try.ntmps94
    go_wp2
    go_ret
    exact ⟨bans_no HN.out, hB0⟩
  by_cases h2 : (m : Int) = (v : Int)
  rotate_left
  · have HN : Hid (¬ (SameI n u f f' ∧ SameI m v g g')) := fun x => h2 (by have := x.2.1; omega)
    go_enter Try.func94, Try.ntmps94
    go_wp2
    go_ret
    exact ⟨bans_no HN.out, hB0⟩
  obtain rfl : n = u := by omega
  obtain rfl : m = v := by omega
  clear h1 h2
  have q0 : ((w.alloc (.cells #[.slice ao n acap, .slice bo m bcap] 42)).alloc (.cells #[.slice co n ccap, .slice dO m dcap] 42)).cell? ⟨w.heap.size, 0, none⟩ = some (.slice ao n acap) := by simp [go_sem]
  have q1 : ((w.alloc (.cells #[.slice ao n acap, .slice bo m bcap] 42)).alloc (.cells #[.slice co n ccap, .slice dO m dcap] 42)).cell? ⟨w.heap.size, 1, none⟩ = some (.slice bo m bcap) := by simp [go_sem]
  have q2 : ((w.alloc (.cells #[.slice ao n acap, .slice bo m bcap] 42)).alloc (.cells #[.slice co n ccap, .slice dO m dcap] 42)).cell? ⟨w.heap.size + 1, 0, none⟩ = some (.slice co n ccap) := by simp [go_sem]
  have q3 : ((w.alloc (.cells #[.slice ao n acap, .slice bo m bcap] 42)).alloc (.cells #[.slice co n ccap, .slice dO m dcap] 42)).cell? ⟨w.heap.size + 1, 1, none⟩ = some (.slice dO m dcap) := by simp [go_sem]
  go_enter Try.func94, Try.ntmps94
  go_wp2
  have HR : Hid (IRow w ao n f ∧ IRow w bo m g ∧ IRow w co n f' ∧ IRow w dO m g') := ⟨ha, hb, hc, hd⟩
  clear ha hb hc hd
  generalize (w.alloc (.cells #[.slice ao n acap, .slice bo m bcap] 42)).alloc (.cells #[.slice co n ccap, .slice dO m dcap] 42) = W0 at hB0 q0 q1 q2 q3 ⊢
  go_loopw [5] (fun x wr => ∃ j : Nat, j ≤ n ∧ x = .int .i64 j ∧ (∀ i, i < j → f i = f' i) ∧ Below W0.heap.size W0 wr) (fun x _ => n - (intOf x).toNat)
  case atStart => exact ⟨0, Nat.zero_le _, rfl, fun i hi => by omega, Below.refl _ _⟩
  case round =>
    obtain ⟨j, hj, rfl, hall, hbel⟩ := hrel
    have HA : Hid (∀ i, i < j → f i = f' i) := hall
    have p0 := keep_cell hbel (Nat.le_refl _) q0
    have p1 := keep_cell hbel (Nat.le_refl _) q1
    have p2 := keep_cell hbel (Nat.le_refl _) q2
    have p3 := keep_cell hbel (Nat.le_refl _) q3
    have hB1 := below_next hB0 (Nat.le_refl _) hbel
    clear hall
    by_cases hlt : j < n
    · clear q0 q1 q2 q3
      obtain ⟨b1, o1, e1, c1⟩ := (HR.out.1.below hB1 (Nat.le_refl _)) j hlt
      subst e1
      obtain ⟨b2, o2, e2, c2⟩ := (HR.out.2.2.1.below hB1 (Nat.le_refl _)) j hlt
      subst e2
      have hk1 : (0 : Int) ≤ (j : Int) := by omega
      have hk2 : (j : Int) < (n : Int) := by omega
      by_cases he : f j = f' j
      · have HE : Hid (f j = f' j) := he
        rw [← he] at c2
        clear he
        go_wp2
        (try go_quiet (fail))
        go_wp2
        go_roundw
        case rel => exact ⟨j + 1, by omega, by go_num, fun i hi => by
          by_cases x : i = j
          · subst x; exact HE.out
          · exact HA.out i (by omega), by first | exact below_drewN hbel _ | exact hbel⟩
        case measure => simp [intOf]; omega
      · have HN : Hid (¬ (SameI n n f f' ∧ SameI m m g g')) := fun x => he (x.1.2 j hlt)
        go_wp2
        (try go_quiet (fail))
        go_wp2
        go_ret
        exact ⟨bans_no HN.out, by first | exact below_drewN hB1 _ | exact hB1⟩
    have hjn : j = n := by omega
    subst hjn
    have HF : Hid (SameI j j f f') := ⟨rfl, HA.out⟩
    clear HA p0 p1 p2 p3
    have p0 := keep_cell hbel (Nat.le_refl _) q0
    have p1 := keep_cell hbel (Nat.le_refl _) q1
    go_wp2
    clear p0 p1
    go_loopw [6] (fun x wq => ∃ j2 : Nat, j2 ≤ m ∧ x = .int .i64 j2 ∧ (∀ i, i < j2 → g i = g' i) ∧ Below W0.heap.size W0 wq) (fun x _ => m - (intOf x).toNat)
    case atStart => exact ⟨0, Nat.zero_le _, rfl, fun i hi => by omega, hbel⟩
    case round =>
      clear hbel hB1
      obtain ⟨j2, hj2, rfl, hall, hbel⟩ := hrel
      have HA : Hid (∀ i, i < j2 → g i = g' i) := hall
      have p0 := keep_cell hbel (Nat.le_refl _) q0
      have p1 := keep_cell hbel (Nat.le_refl _) q1
      have p2 := keep_cell hbel (Nat.le_refl _) q2
      have p3 := keep_cell hbel (Nat.le_refl _) q3
      have hB1 := below_next hB0 (Nat.le_refl _) hbel
      clear hall q0 q1 q2 q3
      by_cases hlt2 : j2 < m
      · obtain ⟨b1, o1, e1, c1⟩ := (HR.out.2.1.below hB1 (Nat.le_refl _)) j2 hlt2
        subst e1
        obtain ⟨b2, o2, e2, c2⟩ := (HR.out.2.2.2.below hB1 (Nat.le_refl _)) j2 hlt2
        subst e2
        have hk1 : (0 : Int) ≤ (j2 : Int) := by omega
        have hk2 : (j2 : Int) < (m : Int) := by omega
        by_cases he : g j2 = g' j2
        · have HE : Hid (g j2 = g' j2) := he
          rw [← he] at c2
          clear he
          go_wp2
          (try go_quiet (fail))
          go_wp2
          go_roundw
          case rel => exact ⟨j2 + 1, by omega, by go_num, fun i hi => by
            by_cases x : i = j2
            · subst x; exact HE.out
            · exact HA.out i (by omega), by first | exact below_drewN hbel _ | exact hbel⟩
          case measure => simp [intOf]; omega
        · have HN : Hid (¬ (SameI j j f f' ∧ SameI m m g g')) := fun x => he (x.2.2 j2 hlt2)
          go_wp2
          (try go_quiet (fail))
          go_wp2
          go_ret
          exact ⟨bans_no HN.out, by first | exact below_drewN hB1 _ | exact hB1⟩
      have hjm : j2 = m := by omega
      subst hjm
      have HY : Hid (SameI j j f f' ∧ SameI j2 j2 g g') := ⟨HF.out, rfl, HA.out⟩
      go_wp2
      go_ret
      exact ⟨bans_yes HY.out, hB1⟩

end Go.Proofs.Yteibbknpcgcjjab

/-
  The program's Length answers what the document's does.
-/
set_option linter.unusedVariables false
set_option linter.unusedSimpArgs false
namespace Go.Proofs.Yteibbknpcgcjjab
open Go.RowKit Go.Maps
attribute [local go_sem ↓] Go.wp_at_zero Go.wp_at_succ

def pathB (p : Int) (m : Nat) (P : Nat → Int) : Bool := decide (1 ≤ m) && (decide (m ≤ 200) && allIn p P m)

set_option maxHeartbeats 800000 in
theorem pathOk_any (p : Int) (po : Option Addr) (m pcap : Nat) (P : Nat → Int) (hm : m ≤ 1048576) (w : World) (hp : IRow w po m P) :
    Calls Try.prog 70 #[.slice po m pcap, .int .i64 p] w fun e w' => e = .returned (.bool (pathB p m P)) ∧ w' = w := by
  by_cases h1 : 1 ≤ m
  rotate_left
  · go_enter Try.func70, Try.ntmps70
    go_wp2
    go_ret
    exact ⟨ret_bool (by simp [pathB]; omega), rfl⟩
  by_cases h2 : m ≤ 200
  rotate_left
  · go_enter Try.func70, Try.ntmps70
    go_wp2
    go_ret
    exact ⟨ret_bool (by simp [pathB]; omega), rfl⟩
  go_enter Try.func70, Try.ntmps70
  go_wp2
  go_loop [17] (fun i => ∃ k : Nat, k ≤ m ∧ i = .int .i64 k ∧ Hid (allIn p P k = true)) (fun i => m - (intOf i).toNat)
  case atStart => exact ⟨0, Nat.zero_le _, rfl, rfl⟩
  case round =>
    obtain ⟨k, hk, rfl, hall⟩ := hrel
    by_cases hlt : k < m
    rotate_left
    · have hkn : k = m := by omega
      subst hkn
      go_wp2
      go_ret
      exact ⟨ret_bool (by simp [pathB, h1, h2, hall.out]), rfl⟩
    obtain ⟨b, o, hao, c0⟩ := hp k hlt
    subst hao
    rcases Bool.eq_false_or_eq_true (inB (P k) 0 (p - 1)) with ha | ha
    · go_wp2_with (go_at_call 35; refine (placeOk_any _ _ _).mono ?_; rintro e w1 ⟨rfl, rfl⟩)
      go_round
      case rel => exact ⟨k + 1, by omega, by go_num, by show allIn p P (k + 1) = true; simp [allIn, hall.out, ha]⟩
      case measure => simp [intOf]; omega
    · go_wp2_with (go_at_call 35; refine (placeOk_any _ _ _).mono ?_; rintro e w1 ⟨rfl, rfl⟩)
      go_ret
      exact ⟨ret_bool (by simp [pathB, allIn_no ha m hlt]), rfl⟩

set_option maxHeartbeats 1600000 in
theorem implLength_any (p : Int) (ao : Option Addr) (n cap : Nat) (F T G : Nat → Int) (po : Option Addr) (m pcap : Nat) (P : Nat → Int) (hn : n ≤ 1048576) (hm : m ≤ 1048576) (hcap : m ≤ pcap) (w : World) (hr : Row w ao n F T G) (hp : IRow w po m P) :
    Calls Try.prog 30 #[.agg #[.int .i64 p, .slice ao n cap], .slice po m pcap] w fun e w' => e = .returned (.int .i64 (lenOf p n F T G m P)) ∧ Below w.heap.size w w' := by
  rcases Bool.eq_false_or_eq_true (graphB p n F T G) with h | h
  rotate_left
  · go_enter Try.func30, Try.ntmps30
    go_wp2_with (first | (go_at_call 69; refine (implGraphOk_any p ao n cap F T G hn _ (hr.alloc _)).mono ?_; rintro e w1 ⟨rfl, hb1⟩))
    go_ret
    exact ⟨ret_i64 (lenOf_far (by simp [h])).symm, unbox hb1 (by simp)⟩
  rcases Bool.eq_false_or_eq_true (pathB p m P) with hpb | hpb
  rotate_left
  · go_enter Try.func30, Try.ntmps30
    go_wp2_with (first | (go_at_call 69; refine (implGraphOk_any p ao n cap F T G hn _ (hr.alloc _)).mono ?_; rintro e w1 ⟨rfl, hb1⟩; obtain ⟨hcc, hff⟩ := bcell hb1) | (go_at_call 70; refine (pathOk_any p po m pcap P hm _ ((hp.alloc _).below hb1 (Nat.le_refl _))).mono ?_; rintro e w2 ⟨rfl, rfl⟩))
    go_ret
    exact ⟨ret_i64 (lenOf_far (fun hh => by simp [pathB, hh.2.1, hh.2.2.1, hh.2.2.2] at hpb)).symm, unbox hb1 (by simp)⟩
  have hpb' : 1 ≤ m ∧ m ≤ 200 ∧ allIn p P m = true := by simpa [pathB] using hpb
  obtain ⟨h1, h2, hall0⟩ := hpb'
  have HALL : Hid (allIn p P m = true) := hall0
  clear hall0
  have harcs := (graphB_arcs h).2
  have hwf := wf_small (graphB_p h) harcs
  have hpp : 1 ≤ p ∧ p ≤ 24 := by simpa [inB] using graphB_p h
  obtain ⟨hp1, hp2⟩ := hpp
  have HA : Hid (arcsB p F T G n = true) := harcs
  have HGB : Hid (graphB p n F T G = true) := h
  clear harcs
  obtain ⟨pb, po', hpo, _⟩ := hp 0 (by omega)
  subst hpo
  have hm1 : (1 : Int) ≤ (m : Int) := by omega
  have hm2 : (m : Int) ≤ (pcap : Int) := by omega
  have hlen : lenOf p n F T G m P = ps n F T G P (m - 1) := by unfold lenOf; rw [if_pos ⟨HGB.out, h1, h2, HALL.out⟩]
  have HLEN : Hid (lenOf p n F T G m P = ps n F T G P (m - 1)) := hlen
  clear hlen
  by_cases hq1 : pcap = 1
  · have hmm : m = 1 := by omega
    subst hmm
    subst hq1
    go_enter Try.func30, Try.ntmps30
    go_wp2_with (first | (go_at_call 69; refine (implGraphOk_any p ao n cap F T G hn _ (hr.alloc _)).mono ?_; rintro e w1 ⟨rfl, hb1⟩; obtain ⟨hcc, hff⟩ := bcell hb1) | (go_at_call 70; refine (pathOk_any p _ _ _ P hm _ ((hp.alloc _).below hb1 (Nat.le_refl _))).mono ?_; rintro e wq ⟨rfl, hq⟩; have hq' := hq.symm; subst hq'; clear hq) | (go_at_call 71; refine (arcNumbers_any p ao n cap F T G hn hwf _ ((hr.alloc _).below hb1 (Nat.le_refl _))).mono ?_; rintro e w2 ⟨rfl, hown, hb2⟩))
    have hA := below_next (boxed hb1) (by simp) hb2
    clear hcc hff hb1 hb2
    go_loopw [6, 26] (fun q i wr => i = .int .i64 0 ∧ q = .int .i64 0 ∧ Below (w.heap.size + 1) (w.alloc (.cells #[.int .i64 p, .slice ao n cap] 32)) wr) (fun _ _ _ => 0)
    case atStart => exact ⟨rfl, rfl, hA⟩
    case round =>
      obtain ⟨rfl, rfl, hbel⟩ := hrel
      go_wp2
      go_ret
      exact ⟨ret_i64 HLEN.out.symm, unbox hbel (by omega)⟩
  have hq2 : ¬ pcap = 1 := hq1
  go_enter Try.func30, Try.ntmps30
  go_wp2_with (first | (go_at_call 69; refine (implGraphOk_any p ao n cap F T G hn _ (hr.alloc _)).mono ?_; rintro e w1 ⟨rfl, hb1⟩; obtain ⟨hcc, hff⟩ := bcell hb1) | (go_at_call 70; refine (pathOk_any p _ _ _ P hm _ ((hp.alloc _).below hb1 (Nat.le_refl _))).mono ?_; rintro e wq ⟨rfl, hq⟩; have hq' := hq.symm; subst hq'; clear hq) | (go_at_call 71; refine (arcNumbers_any p ao n cap F T G hn hwf _ ((hr.alloc _).below hb1 (Nat.le_refl _))).mono ?_; rintro e w2 ⟨rfl, hown, hb2⟩))
  have hA := below_next (boxed hb1) (by simp) hb2
  clear hcc hff hb1 hb2
  go_loopw [6, 26] (fun q i wr => ∃ k : Nat, k ≤ m - 1 ∧ i = .int .i64 k ∧ q = .int .i64 (ps n F T G P k) ∧ wr.ownsMap Try.prog 99 (plainElem Try.prog 3) (w1.heap.size + 1) n (nums F T n) ∧ Below (w.heap.size + 1) (w.alloc (.cells #[.int .i64 p, .slice ao n cap] 32)) wr) (fun _ i _ => (m - 1) - (intOf i).toNat)
  case atStart => exact ⟨0, Nat.zero_le _, rfl, rfl, hown, hA⟩
  case round =>
    obtain ⟨k, hk, rfl, rfl, hown, hbel⟩ := hrel
    obtain ⟨g0, g1, hsz⟩ := box2 hbel
    by_cases hlt : k < m - 1
    rotate_left
    · have hkn : k = m - 1 := by omega
      subst hkn
      go_wp2
      go_ret
      exact ⟨ret_i64 HLEN.out.symm, unbox hbel (by omega)⟩
    obtain ⟨pb1, po1, hpo1, c0⟩ := ((hp.alloc _).below hbel (by simp)) k (by omega)
    obtain ⟨pb2, po2, hpo2, c1⟩ := ((hp.alloc _).below hbel (by simp)) (k + 1) (by omega)
    simp only [Option.some.injEq, Addr.mk.injEq, and_true] at hpo1 hpo2
    obtain ⟨rfl, rfl⟩ := hpo1
    obtain ⟨rfl, rfl⟩ := hpo2
    have c1' : wr.cell? ⟨pb, po' + 1 + k, none⟩ = some (.int .i64 (P (k + 1))) := by rw [← c1]; congr 2; omega
    have hk1 : (k : Int) < (m : Int) := by omega
    have hi0 := allIn_each m HALL.out k (by omega)
    have hi1 := allIn_each m HALL.out (k + 1) (by omega)
    have ha : (Lit.int .i64 (P k)).wf = true := by simp [inB] at hi0; exact WalkArith.wf_i64 (by omega)
    have hc : (Lit.int .i64 (P (k + 1))).wf = true := by simp [inB] at hi1; exact WalkArith.wf_i64 (by omega)
    have hkey := key_ends (P k) (P (k + 1)) ha hc
    have hL := lastW_lo HA.out (P k) (P (k + 1)) n (Nat.le_refl _)
    have hS := ps_lo HA.out P k
    clear hi0 hi1
    rcases nums_look F T (P k) (P (k + 1)) ha hc n hwf with ⟨l1, l2⟩ | ⟨j, hj, l1, l2, l3, l4⟩
    · have L2 : Hid (∀ j, j < n → ¬ (F j = P k ∧ T j = P (k + 1))) := l2
      clear l2
      go_wp2_with (at_lookup; refine wpList_lookup_own_ok_int _ rfl _ _ 83 rfl 99 3 .i64 Try.keyLaw Try.underlying83 Try.underlying3 (Try.mapZero _) _ n _ rfl hown _ _ rfl hkey ?_; intro cc hat hwc)
      go_ret
      exact ⟨ret_i64 (by rw [HLEN.out, ps_far HA.out P (lastW_none n L2.out) (m - 1) hlt]), unbox hbel (by omega)⟩
    · have L4 : Hid ((nums F T n).atKey (kl (P k) (P (k + 1))) (.lit (.int .i64 0)) = .lit (.int .i64 (j : Int))) := l4
      have HE : Hid (lastW F T G (P k) (P (k + 1)) n = G j) := lastW_at n (fun j' hj' e1 e2 => unique HA.out hj' hj (e1.trans l1.symm) (e2.trans l2.symm)) hj l1 l2
      clear l1 l2 l4
      rw [HE.out] at hL
      obtain ⟨b, o, hao, d0, d1, d2⟩ := ((hr.alloc _).below hbel (by simp)) j hj
      subst hao
      go_wp2_with (first | (at_lookup; refine wpList_lookup_own_ok_int _ rfl _ _ 83 rfl 99 3 .i64 Try.keyLaw Try.underlying83 Try.underlying3 (Try.mapZero _) _ n _ rfl hown _ _ rfl hkey ?_; intro cc hat hwc; obtain rfl : cc = (j : Int) := by (rw [L4.out] at hat; simpa using hat.symm)) | (go_at_call 72; refine (plus_any _ _ hS.1 hS.2 hL.1 hL.2 _).mono ?_; rintro e w3 ⟨rfl, rfl⟩))
      go_roundw
      case rel => exact ⟨k + 1, by omega, by go_num, by show Value.int .i64 _ = Value.int .i64 (min 1000000000000 (ps n F T G P k + lastW F T G (P k) (P (k + 1)) n)); rw [HE.out], hown, hbel⟩
      case measure => simp [intOf]; omega

end Go.Proofs.Yteibbknpcgcjjab

/-
  Ranks, the document's.
-/
set_option linter.unusedVariables false
set_option linter.unusedSimpArgs false
namespace Go.Proofs.Yteibbknpcgcjjab
open Go.RowKit
attribute [local go_sem ↓] Go.wp_at_zero Go.wp_at_succ

set_option maxHeartbeats 1000000 in
theorem specRanks_any (ao : Option Addr) (n cap : Nat) (P : Nat → Int) (hn : n ≤ 1048576) (w : World) (hr : IRow w ao n P) :
    Calls Try.prog 29 #[.slice ao n cap] w fun e w' => Ans w w' e (lenR n P) (rk P (-1) n) := by
  rcases Bool.eq_false_or_eq_true (okR n P) with h | h
  rotate_left
  · have hL : lenR n P = 0 := by simp [lenR, h]
    rw [hL]
    go_enter Try.func29, Try.ntmps29
    go_wp2_with (go_at_call 41; refine (l3Each_any ao n cap P hn _ hr).mono ?_; rintro e w1 ⟨rfl, hb1⟩)
    go_ret
    exact ⟨_, _, rfl, fun h => by omega, hb1.alloc (by have := hb1.size; omega) _⟩
  have hL : lenR n P = n := by simp [lenR, h]
  rw [hL]
  have h' : 1 ≤ n ∧ n ≤ 24 ∧ eachB n P n = true := by simpa [okR] using h
  have HE : Hid (eachB n P n = true) := h'.2.2
  have h24 : n ≤ 24 := h'.2.1
  clear h' hL
  go_enter Try.func29, Try.ntmps29
  go_wp2_with (first | (go_at_call 41; refine (l3Each_any ao n cap P hn _ hr).mono ?_; rintro e w1 ⟨rfl, hb1⟩) | (go_at_call 46; refine (l3Ranks_any ao n cap P h24 HE.out _ (hr.below hb1 (Nat.le_refl _))).mono ?_; rintro e w2 ⟨rfl, hI, hb2⟩))
  go_ret
  exact ⟨_, _, rfl, fun _ => ⟨_, rfl, hb1.size, hI.congr (fun j hj => rk_same P 0 (-1) n j (each_all HE.out j hj))⟩, below_next hb1 (Nat.le_refl _) hb2⟩

end Go.Proofs.Yteibbknpcgcjjab
