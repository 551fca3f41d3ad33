/-
  Helpers: RoomC.
-/
import Derived.Test.YthmpliljffmmcaaGreatDoorPack11
import Derived.Test.YthmpliljffmmcaaGreatDoorPack21
import Derived.Test.YthmpliljffmmcaaGreatDoorPack1
import Derived.Test.YthmpliljffmmcaaGreatDoorPack8
import Derived.Test.YthmpliljffmmcaaGreatDoorPack9
set_option linter.unusedVariables false
set_option linter.unusedSimpArgs false
namespace Go.Proofs.YthmpliljffmmcaaGreatDoor
section
open Go.RowKit Go.Shelf Go.Deep Go.Joins Go.Maps
attribute [local go_sem] Oper.semAt_some
theorem w0_in {F T G : Nat → Int} {n : Nat} {a c : Int} (h : ∀ t, t < n → 1 ≤ G t ∧ G t ≤ 1000000) : 0 ≤ lastW F T G a c n ∧ lastW F T G a c n ≤ 1000000000000 := by
  have h1 := lastZ_far (F := F) (T := T) (a := a) (b := c) n h
  have h2 := lastZ_in (F := F) (T := T) (a := a) (b := c) n h
  rw [← h1]
  split <;> omega
theorem min_run (P : Program) (x y : Operand) (a : Act) (oi : Oper) (w : World) {u v : Int} (ho : oi.op = .call { callee := .builtin .min, args := #[x, y], argTypes := #[2, 2] }) (hx : a.eval x = .int .i64 u) (hy : a.eval y = .int .i64 v) :
    (execOp a.eval oi).run P w = .ok (.value (.int .i64 (min u v))) w := by
  by_cases h : v < u
  · have e : min u v = v := by omega
    simp [execOp, ho, resolve, invoke, builtin, hx, hy, Builtin.min_, Builtin.min2, h, e]
  · have e : min u v = u := by omega
    simp [execOp, ho, resolve, invoke, builtin, hx, hy, Builtin.min_, Builtin.min2, h, e]
theorem Room.far {w : World} {k : Nat} {P : Nat → Int} {eo : Option Addr} {m ecap : Nat} {L H : Nat → Int} {b g rcap bm bU bV : Nat} {U V : Nat → Int} {W W' : World} {row : Option Nat} {B : Nat} (h : Room w k P eo m ecap L H b g rcap bm bU bV U V W) (hg : W.grownBy W' row) (hr : ∀ x, row = some x → B ≤ x) (hl : w.heap.size ≤ B ∧ b < B ∧ g < B ∧ bm < B ∧ bU < B ∧ bV < B) : Room w k P eo m ecap L H b g rcap bm bU bV U V W' := by
  obtain ⟨l0, l1, l2, l3, l4, l5⟩ := hl
  have hne : ∀ x, x < B → some x ≠ row := fun x hx e => by have := hr x e.symm; omega
  exact ⟨below_far h.bel hg hr l0, (hg.block b (Array.getElem?_eq_some_iff.1 h.box).1 (hne b l1)).trans h.box, h.rks.grown hg (hne g l2), World.ownsMap.kept h.nos hg (hne bm l3), h.up.grown hg (hne bU l4), h.dn.grown hg (hne bV l5), h.ge, h.ne⟩
theorem turns_far {w W W' : World} {S : List Nat} {row : Option Nat} {B : Nat} (h : Turns w W S) (hg : W.grownBy W' row) (hr : ∀ x, row = some x → B ≤ x) (hB : w.heap.size ≤ B) : Turns w W' S :=
  ⟨hg.os.trans h.os, hg.tape.trans h.tape, hg.output.trans h.output, Nat.le_trans h.size hg.size, fun k hk hn => (hg.block k (Nat.lt_of_lt_of_le hk h.size) (fun e => by have := hr k e.symm; omega)).trans (h.block k hk hn)⟩
set_option maxRecDepth 100000 in
set_option maxHeartbeats 4000000 in
theorem customize_any (w0 : World) (k n m : Nat) (p : Int) (ao : Option Addr) (cap : Nat) (F T G P L H : Nat → Int) (eo : Option Addr) (ecap b g rcap bm bU bV : Nat) (U V : Nat → Int) (hE : CEnv k n m F T G P L H) (hao : 0 < n → ∀ a, ao = some a → a.block ≠ bU ∧ a.block ≠ bV) (w : World) (he : ERow w0 eo m L H) (hr : Row w ao n F T G) (hR : Room w0 k P eo m ecap L H b g rcap bm bU bV U V w) :
    Calls Tryz.prog 139 #[.pointer (some ⟨b, 0, none⟩), .agg #[.int .i64 p, .slice ao n cap]] w fun e w' => (∃ v, e = .returned v) ∧ Room w0 k P eo m ecap L H b g rcap bm bU bV (runT (w0U n F T G P L H, w0D n F T G P L H) (allT m L H m)).1 (runT (w0U n F T G P L H, w0D n F T G P L H) (allT m L H m)).2 w' ∧ Turns w w' [bU, bV] := by
  have hm := hE.m1000
  have hm' : m ≤ 1048576 := by omega
  have hk24 : (k : Int) ≤ 24 := by have := hE.k24; omega
  generalize hs00 : (w0U n F T G P L H, w0D n F T G P L H) = s0
  refine (callsIn_wide (n := 6)).1 ?_
  refine callsIn_of_wp_marks Tryz.func139 rfl trivial ?_ rfl
  simp only [Tryz.ntmps139, List.size_toArray, List.length_cons, List.length_nil, Nat.reduceAdd, Nat.reduceSub, Array.replicate_succ, Array.replicate_zero, List.push_toArray, List.append_toArray, List.nil_append, List.cons_append]
  gi_wp2
  refine ⟨trivial, ?_⟩
  have hbl : b < w.heap.size := (Array.getElem?_eq_some_iff.1 hR.box).1
  have hUl := hR.up.lt
  have hVl := hR.dn.lt
  have hB0 : Below w.heap.size w ((w.alloc (.cells #[.pointer (some ⟨b, 0, none⟩)] 182)).alloc (.cells #[.int .i64 p, .slice ao n cap] 26)) := ((Below.refl _ w).alloc (Nat.le_refl _) _).alloc (by simp) _
  have q0 : ((w.alloc (.cells #[.pointer (some ⟨b, 0, none⟩)] 182)).alloc (.cells #[.int .i64 p, .slice ao n cap] 26)).cell? ⟨w.heap.size, 0, none⟩ = some (.pointer (some ⟨b, 0, none⟩)) := by simp [go_sem]
  have R0 := hR.next hB0
  have hr0 := hr.below hB0 (Nat.le_refl _)
  have hs0 : ((w.alloc (.cells #[.pointer (some ⟨b, 0, none⟩)] 182)).alloc (.cells #[.int .i64 p, .slice ao n cap] 26)).heap.size = w.heap.size + 2 := by simp
  have T0 := Turns.of_below hB0 (Nat.le_refl _) [bU, bV]
  generalize (w.alloc (.cells #[.pointer (some ⟨b, 0, none⟩)] 182)).alloc (.cells #[.int .i64 p, .slice ao n cap] 26) = W0 at hB0 q0 R0 hr0 hs0 T0 ⊢
  clear hR hr hB0
  refine (callsIn_wide.2 (weigh_any w0 k n m p ao cap F T G P L H eo ecap b g rcap bm bU bV U V hE hao W0 hr0 R0)).mono ?_
  rintro e w1 ⟨⟨v1, rfl⟩, R1, T1⟩
  replace q0 := T1.cell (by simp; omega) q0
  have hs1 := T1.size
  replace T1 := T0.trans T1
  have c0 : w1.cell? ⟨b, 0, none⟩ = some (.slice eo m ecap) := R1.cell rfl
  clear R0 hr0 T0
  gi_wp2_with fail
  refine ⟨trivial, ?_⟩
  refine (callsIn_wide.2 (triangles_any eo m ecap _)).mono ?_
  rintro e w2 ⟨rfl, rfl⟩
  have hal := alloc_b w1 (.cells #[.slice eo m ecap] 28)
  have R2 := R1.next hal
  have hR2 : TRd w1.heap.size eo m ecap L H (w1.alloc (.cells #[.slice eo m ecap] 28)) := ⟨by simp [go_sem], he.below R2.bel (Nat.le_refl _)⟩
  replace q0 := keep_cell hal (Nat.le_refl _) q0
  replace T1 := T1.trans (Turns.of_below hal (Nat.le_refl _) [bU, bV])
  have hs2 : (w1.alloc (.cells #[.slice eo m ecap] 28)).heap.size = w1.heap.size + 1 := by simp
  generalize w1.alloc (.cells #[.slice eo m ecap] 28) = W2 at R2 hR2 q0 T1 hs2 ⊢
  clear hal c0 R1
  -- ROUND
  have HIN : Hid (InF m s0.1 ∧ InF m s0.2) := by
    rw [← hs00]
    exact ⟨fun j _ => w0_in hE.gt, fun j _ => w0_in hE.gt⟩
  have R2' : Room w0 k P eo m ecap L H b g rcap bm bU bV (runT s0 []).1 (runT s0 []).2 W2 := by rw [← hs00]; exact R2
  clear R2
  have HLT : Hid (w0.heap.size ≤ W2.heap.size ∧ b < W2.heap.size ∧ g < W2.heap.size ∧ bm < W2.heap.size ∧ bU < W2.heap.size ∧ bV < W2.heap.size) := ⟨R2'.bel.size, (Array.getElem?_eq_some_iff.1 R2'.box).1, R2'.rks.lt, World.ownsMap.lt R2'.nos, R2'.up.lt, R2'.dn.lt⟩
  gi_wp2_with fail
  refine range_boxed rfl (by omega) (gf := 150) (lb := #[.pointer (some ⟨w1.heap.size, 0, none⟩)]) rfl trivial (enters_of Tryz.func150 (by kernel_rfl) rfl)
    (tri_stops 5 (by omega) w1.heap.size eo m ecap L H (k : Int) hm' hk24 hE.ed hE.chd.2 W2 hR2) (fun h k => ⟨h.1.trans k.1, fun r => k.2 (h.2 r)⟩) (fun W l o o' hl ho hc hw => ⟨KeepsOwn.putObj ho hc hw, fun h => h.putObj ho hc⟩)
    (fun W o => ⟨⟨by simp, fun k x _ hk _ => (Below.heap_alloc W o k (Array.getElem?_eq_some_iff.1 hk).1).trans hk⟩, fun h => h.grown (World.grownBy_alloc W o none) (fun r e => by cases e)⟩) (Below.refl _ _) (fun _ => rfl)
    (fun pre W => (Room w0 k P eo m ecap L H b g rcap bm bU bV (runT s0 (pre.map (·.1))).1 (runT s0 (pre.map (·.1))).2 W ∧ W2.heap.size ≤ W.heap.size) ∧ W.cell? ⟨w.heap.size, 0, none⟩ = some (.pointer (some ⟨b, 0, none⟩)) ∧ Turns w W [bU, bV])
    (fun c pre W => False) ?ownI (fun c pre A B row h => h.elim) (fun pre W h => h.1.2) ⟨⟨R2', Nat.le_refl _⟩, q0, T1⟩ 4
    (fun x => #[.int .i64 (x.1.1 : Int), .int .i64 (x.1.2.1 : Int), .int .i64 (x.1.2.2 : Int)]) 196 ?assign ?body ?done (fun D c pre W _ _ h => h.elim)
  case ownI =>
    rintro pre A B row ⟨⟨h1, h2⟩, h3, h4⟩ hg hr
    exact ⟨⟨h1.far hg (fun r e => (hr r e).1) HLT.out, Nat.le_trans h2 hg.size⟩, cell_far h3 hg (fun r e => (hr r e).1) (by omega), turns_far h4 hg (fun r e => (hr r e).1) (by omega)⟩
  case assign =>
    intro l x W K hK
    obtain ⟨⟨i, kk, e⟩, hx⟩ := x
    simp only [trv] at hK ⊢
    gi_wp2
    simpa [Exit.then] using hK
  case body =>
    rintro l pre ⟨⟨i, kk, e⟩, hx⟩ bT W ⟨⟨hRm, hs⟩, hq, hTw⟩ hbT hcs
    have HX : Hid (TOk m L H (i, kk, e)) := hx
    obtain ⟨hi9, hk9, he9, _⟩ := hx
    simp only at hi9 hk9 he9 hcs
    have hi : i < m := by omega
    obtain ⟨⟨SU, SD⟩, hS⟩ : ∃ S, runT s0 (pre.map (·.1)) = S := ⟨_, rfl⟩
    have HIN1 : Hid (InF m SU ∧ InF m SD) := by
      have := runT_in HIN.out.1 HIN.out.2 (pre.map (·.1)) (fun t ht => by obtain ⟨x, _, rfl⟩ := List.mem_map.1 ht; exact x.2)
      rw [hS] at this
      exact this
    rw [hS] at hRm
    have HSN : Hid (runT s0 ((pre ++ [(⟨(i, kk, e), HX.out⟩ : TrO m L H)]).map (·.1)) = stT (SU, SD) (i, kk, e)) := by
      show _ = _
      rw [List.map_append, List.map_singleton, runT_snoc, hS]
    have HIN2 : Hid (InF m (stU (SU, SD) (i, kk, e)) ∧ InF m SD) := ⟨stU_in HX.out HIN1.out.1 HIN1.out.2, HIN1.out.2⟩
    clear hS
    have HR : Hid (Room w0 k P eo m ecap L H b g rcap bm bU bV SU SD W) := hRm
    have t0 : W.cell? ⟨bT, 0, none⟩ = some (.int .i64 (i : Int)) := by simp [World.cell?, hcs]
    have t1 : W.cell? ⟨bT, 1, none⟩ = some (.int .i64 (kk : Int)) := by simp [World.cell?, hcs]
    have t2 : W.cell? ⟨bT, 2, none⟩ = some (.int .i64 (e : Int)) := by simp [World.cell?, hcs]
    have c3 : W.cell? ⟨b, 3, none⟩ = some (.slice (some ⟨bU, 0, none⟩) m m) := hRm.cell rfl
    have c4 : W.cell? ⟨b, 4, none⟩ = some (.slice (some ⟨bV, 0, none⟩) m m) := hRm.cell rfl
    have u0 : W.drew.cell? ⟨bU, e, none⟩ = some (.int .i64 (SU e)) := (hRm.up.nx (Below.refl W.heap.size W).drew).cell he9
    have rU : IRow W.drew (some ⟨bU, 0, none⟩) m SU := (hRm.up.nx (Below.refl W.heap.size W).drew).row
    have rV : IRow W.drew (some ⟨bV, 0, none⟩) m SD := (hRm.dn.nx (Below.refl W.heap.size W).drew).row
    have he1 : (0 : Int) ≤ (e : Int) := by omega
    have he2 : (e : Int) < (m : Int) := by omega
    have hS0 : (fun X : World => X.cell? ⟨w.heap.size, 0, none⟩ = some (.pointer (some ⟨b, 0, none⟩)) ∧ X.cell? ⟨b, 3, none⟩ = some (.slice (some ⟨bU, 0, none⟩) m m) ∧ X.cell? ⟨b, 4, none⟩ = some (.slice (some ⟨bV, 0, none⟩) m m) ∧ X.cell? ⟨bT, 0, none⟩ = some (.int .i64 (i : Int)) ∧ X.cell? ⟨bT, 1, none⟩ = some (.int .i64 (kk : Int)) ∧ X.cell? ⟨bT, 2, none⟩ = some (.int .i64 (e : Int))) W.drew := ⟨hq, c3, c4, t0, t1, t2⟩
    have hSk : ∀ V' : World, Below W.drew.heap.size W.drew V' → (fun X : World => X.cell? ⟨w.heap.size, 0, none⟩ = some (.pointer (some ⟨b, 0, none⟩)) ∧ X.cell? ⟨b, 3, none⟩ = some (.slice (some ⟨bU, 0, none⟩) m m) ∧ X.cell? ⟨b, 4, none⟩ = some (.slice (some ⟨bV, 0, none⟩) m m) ∧ X.cell? ⟨bT, 0, none⟩ = some (.int .i64 (i : Int)) ∧ X.cell? ⟨bT, 1, none⟩ = some (.int .i64 (kk : Int)) ∧ X.cell? ⟨bT, 2, none⟩ = some (.int .i64 (e : Int))) V' := fun V' hb => ⟨keep_cell hb (Nat.le_refl _) hS0.1, keep_cell hb (Nat.le_refl _) hS0.2.1, keep_cell hb (Nat.le_refl _) hS0.2.2.1, keep_cell hb (Nat.le_refl _) hS0.2.2.2.1, keep_cell hb (Nat.le_refl _) hS0.2.2.2.2.1, keep_cell hb (Nat.le_refl _) hS0.2.2.2.2.2⟩
    have hne := HR.out.ne
    have hbT1 : bT ≠ bU := by omega
    have hbT2 : bT ≠ bV := by omega
    have hw1 : w.heap.size ≠ bU := by omega
    have hw2 : w.heap.size ≠ bV := by omega
    have hSsU : ∀ (V' : World) (x : Value), (fun X : World => X.cell? ⟨w.heap.size, 0, none⟩ = some (.pointer (some ⟨b, 0, none⟩)) ∧ X.cell? ⟨b, 3, none⟩ = some (.slice (some ⟨bU, 0, none⟩) m m) ∧ X.cell? ⟨b, 4, none⟩ = some (.slice (some ⟨bV, 0, none⟩) m m) ∧ X.cell? ⟨bT, 0, none⟩ = some (.int .i64 (i : Int)) ∧ X.cell? ⟨bT, 1, none⟩ = some (.int .i64 (kk : Int)) ∧ X.cell? ⟨bT, 2, none⟩ = some (.int .i64 (e : Int))) V' → (fun X : World => X.cell? ⟨w.heap.size, 0, none⟩ = some (.pointer (some ⟨b, 0, none⟩)) ∧ X.cell? ⟨b, 3, none⟩ = some (.slice (some ⟨bU, 0, none⟩) m m) ∧ X.cell? ⟨b, 4, none⟩ = some (.slice (some ⟨bV, 0, none⟩) m m) ∧ X.cell? ⟨bT, 0, none⟩ = some (.int .i64 (i : Int)) ∧ X.cell? ⟨bT, 1, none⟩ = some (.int .i64 (kk : Int)) ∧ X.cell? ⟨bT, 2, none⟩ = some (.int .i64 (e : Int))) (V'.setCell ⟨bU, e, none⟩ x) := fun V' x h => ⟨cell_turn h.1 (gr_setCell _ _ _ _) hw1, cell_turn h.2.1 (gr_setCell _ _ _ _) hne.2.2.2.1, cell_turn h.2.2.1 (gr_setCell _ _ _ _) hne.2.2.2.1, cell_turn h.2.2.2.1 (gr_setCell _ _ _ _) hbT1, cell_turn h.2.2.2.2.1 (gr_setCell _ _ _ _) hbT1, cell_turn h.2.2.2.2.2 (gr_setCell _ _ _ _) hbT1⟩
    have hSsV : ∀ (V' : World) (x : Value), (fun X : World => X.cell? ⟨w.heap.size, 0, none⟩ = some (.pointer (some ⟨b, 0, none⟩)) ∧ X.cell? ⟨b, 3, none⟩ = some (.slice (some ⟨bU, 0, none⟩) m m) ∧ X.cell? ⟨b, 4, none⟩ = some (.slice (some ⟨bV, 0, none⟩) m m) ∧ X.cell? ⟨bT, 0, none⟩ = some (.int .i64 (i : Int)) ∧ X.cell? ⟨bT, 1, none⟩ = some (.int .i64 (kk : Int)) ∧ X.cell? ⟨bT, 2, none⟩ = some (.int .i64 (e : Int))) V' → (fun X : World => X.cell? ⟨w.heap.size, 0, none⟩ = some (.pointer (some ⟨b, 0, none⟩)) ∧ X.cell? ⟨b, 3, none⟩ = some (.slice (some ⟨bU, 0, none⟩) m m) ∧ X.cell? ⟨b, 4, none⟩ = some (.slice (some ⟨bV, 0, none⟩) m m) ∧ X.cell? ⟨bT, 0, none⟩ = some (.int .i64 (i : Int)) ∧ X.cell? ⟨bT, 1, none⟩ = some (.int .i64 (kk : Int)) ∧ X.cell? ⟨bT, 2, none⟩ = some (.int .i64 (e : Int))) (V'.setCell ⟨bV, e, none⟩ x) := fun V' x h => ⟨cell_turn h.1 (gr_setCell _ _ _ _) hw2, cell_turn h.2.1 (gr_setCell _ _ _ _) hne.2.2.2.2.1, cell_turn h.2.2.1 (gr_setCell _ _ _ _) hne.2.2.2.2.1, cell_turn h.2.2.2.1 (gr_setCell _ _ _ _) hbT2, cell_turn h.2.2.2.2.1 (gr_setCell _ _ _ _) hbT2, cell_turn h.2.2.2.2.2 (gr_setCell _ _ _ _) hbT2⟩
    clear hRm t0 t1 t2 c3 c4 hne
    gi_wp2_with fail
    refine region_round (fun X : World => X.cell? ⟨w.heap.size, 0, none⟩ = some (.pointer (some ⟨b, 0, none⟩)) ∧ X.cell? ⟨b, 3, none⟩ = some (.slice (some ⟨bU, 0, none⟩) m m) ∧ X.cell? ⟨b, 4, none⟩ = some (.slice (some ⟨bV, 0, none⟩) m m) ∧ X.cell? ⟨bT, 0, none⟩ = some (.int .i64 (i : Int)) ∧ X.cell? ⟨bT, 1, none⟩ = some (.int .i64 (kk : Int)) ∧ X.cell? ⟨bT, 2, none⟩ = some (.int .i64 (e : Int))) (by kernel_rfl) (by kernel_rfl) (fun ⟨_, _, h⟩ => h) ?_
    refine takeH 0 (some 14) (.pointer (some ⟨b, 0, none⟩)) rfl rfl (by kernel_rfl) (by kernel_rfl) (by kernel_rfl) (fun _ _ _ h => h) (by rfl) hS0 (fun V hV => by obtain ⟨v1, v2, v3, v4, v5, v6⟩ := hV; go_simp) ?_
    simp only [Act.put, List.setIfInBounds_toArray, List.set_cons_zero, List.set_cons_succ]
    refine takeH 1 (some 15) (.pointer (some ⟨b, 0, none⟩)) rfl rfl (by kernel_rfl) (by kernel_rfl) (by kernel_rfl) (fun _ _ _ h => h) (by rfl) hS0 (fun V hV => by obtain ⟨v1, v2, v3, v4, v5, v6⟩ := hV; go_simp) ?_
    simp only [Act.put, List.setIfInBounds_toArray, List.set_cons_zero, List.set_cons_succ]
    refine takeH 2 (some 16) (.pointer (some ⟨b, 3, none⟩)) rfl rfl (by kernel_rfl) (by kernel_rfl) (by kernel_rfl) (fun _ _ _ h => h) (by rfl) hS0 (fun V hV => by obtain ⟨v1, v2, v3, v4, v5, v6⟩ := hV; go_simp) ?_
    simp only [Act.put, List.setIfInBounds_toArray, List.set_cons_zero, List.set_cons_succ]
    refine takeH 3 (some 17) (.pointer (some ⟨b, 3, none⟩)) rfl rfl (by kernel_rfl) (by kernel_rfl) (by kernel_rfl) (fun _ _ _ h => h) (by rfl) hS0 (fun V hV => by obtain ⟨v1, v2, v3, v4, v5, v6⟩ := hV; go_simp) ?_
    simp only [Act.put, List.setIfInBounds_toArray, List.set_cons_zero, List.set_cons_succ]
    refine takeH 4 (some 18) (.slice (some ⟨bU, 0, none⟩) m m) rfl rfl (by kernel_rfl) (by kernel_rfl) (by kernel_rfl) (fun _ _ _ h => h) (by rfl) hS0 (fun V hV => by obtain ⟨v1, v2, v3, v4, v5, v6⟩ := hV; go_simp) ?_
    simp only [Act.put, List.setIfInBounds_toArray, List.set_cons_zero, List.set_cons_succ]
    refine takeH 5 (some 19) (.pointer (some ⟨bT, 2, none⟩)) rfl rfl (by kernel_rfl) (by kernel_rfl) (by kernel_rfl) (fun _ _ _ h => h) (by rfl) hS0 (fun V hV => by obtain ⟨v1, v2, v3, v4, v5, v6⟩ := hV; go_simp) ?_
    simp only [Act.put, List.setIfInBounds_toArray, List.set_cons_zero, List.set_cons_succ]
    refine takeH 6 (some 20) (.int .i64 (e : Int)) rfl rfl (by kernel_rfl) (by kernel_rfl) (by kernel_rfl) (fun _ _ _ h => h) (by rfl) hS0 (fun V hV => by obtain ⟨v1, v2, v3, v4, v5, v6⟩ := hV; go_simp) ?_
    simp only [Act.put, List.setIfInBounds_toArray, List.set_cons_zero, List.set_cons_succ]
    refine takeH 7 (some 21) (.pointer (some ⟨b, 0, none⟩)) rfl rfl (by kernel_rfl) (by kernel_rfl) (by kernel_rfl) (fun _ _ _ h => h) (by rfl) hS0 (fun V hV => by obtain ⟨v1, v2, v3, v4, v5, v6⟩ := hV; go_simp) ?_
    simp only [Act.put, List.setIfInBounds_toArray, List.set_cons_zero, List.set_cons_succ]
    refine takeH 8 (some 22) (.pointer (some ⟨b, 0, none⟩)) rfl rfl (by kernel_rfl) (by kernel_rfl) (by kernel_rfl) (fun _ _ _ h => h) (by rfl) hS0 (fun V hV => by obtain ⟨v1, v2, v3, v4, v5, v6⟩ := hV; go_simp) ?_
    simp only [Act.put, List.setIfInBounds_toArray, List.set_cons_zero, List.set_cons_succ]
    refine takeH 9 (some 23) (.pointer (some ⟨b, 3, none⟩)) rfl rfl (by kernel_rfl) (by kernel_rfl) (by kernel_rfl) (fun _ _ _ h => h) (by rfl) hS0 (fun V hV => by obtain ⟨v1, v2, v3, v4, v5, v6⟩ := hV; go_simp) ?_
    simp only [Act.put, List.setIfInBounds_toArray, List.set_cons_zero, List.set_cons_succ]
    refine takeH 10 (some 24) (.pointer (some ⟨b, 3, none⟩)) rfl rfl (by kernel_rfl) (by kernel_rfl) (by kernel_rfl) (fun _ _ _ h => h) (by rfl) hS0 (fun V hV => by obtain ⟨v1, v2, v3, v4, v5, v6⟩ := hV; go_simp) ?_
    simp only [Act.put, List.setIfInBounds_toArray, List.set_cons_zero, List.set_cons_succ]
    refine takeH 11 (some 25) (.slice (some ⟨bU, 0, none⟩) m m) rfl rfl (by kernel_rfl) (by kernel_rfl) (by kernel_rfl) (fun _ _ _ h => h) (by rfl) hS0 (fun V hV => by obtain ⟨v1, v2, v3, v4, v5, v6⟩ := hV; go_simp) ?_
    simp only [Act.put, List.setIfInBounds_toArray, List.set_cons_zero, List.set_cons_succ]
    refine takeH 12 (some 26) (.pointer (some ⟨bT, 2, none⟩)) rfl rfl (by kernel_rfl) (by kernel_rfl) (by kernel_rfl) (fun _ _ _ h => h) (by rfl) hS0 (fun V hV => by obtain ⟨v1, v2, v3, v4, v5, v6⟩ := hV; go_simp) ?_
    simp only [Act.put, List.setIfInBounds_toArray, List.set_cons_zero, List.set_cons_succ]
    refine takeH 13 (some 27) (.int .i64 (e : Int)) rfl rfl (by kernel_rfl) (by kernel_rfl) (by kernel_rfl) (fun _ _ _ h => h) (by rfl) hS0 (fun V hV => by obtain ⟨v1, v2, v3, v4, v5, v6⟩ := hV; go_simp) ?_
    simp only [Act.put, List.setIfInBounds_toArray, List.set_cons_zero, List.set_cons_succ]
    refine takeH 14 (some 28) (.pointer (some ⟨bU, e, none⟩)) rfl rfl (by kernel_rfl) (by kernel_rfl) (by kernel_rfl) (fun _ _ _ h => h) (by rfl) hS0 (fun V hV => by obtain ⟨v1, v2, v3, v4, v5, v6⟩ := hV; go_simp) ?_
    simp only [Act.put, List.setIfInBounds_toArray, List.set_cons_zero, List.set_cons_succ]
    refine takeH 16 (some 30) (.pointer (some ⟨b, 0, none⟩)) rfl rfl (by kernel_rfl) (by kernel_rfl) (by kernel_rfl) (fun _ _ _ h => h) (by rfl) hS0 (fun V hV => by obtain ⟨v1, v2, v3, v4, v5, v6⟩ := hV; go_simp) ?_
    simp only [Act.put, List.setIfInBounds_toArray, List.set_cons_zero, List.set_cons_succ]
    refine takeH 17 (some 31) (.pointer (some ⟨b, 0, none⟩)) rfl rfl (by kernel_rfl) (by kernel_rfl) (by kernel_rfl) (fun _ _ _ h => h) (by rfl) hS0 (fun V hV => by obtain ⟨v1, v2, v3, v4, v5, v6⟩ := hV; go_simp) ?_
    simp only [Act.put, List.setIfInBounds_toArray, List.set_cons_zero, List.set_cons_succ]
    refine takeH 18 (some 32) (.pointer (some ⟨b, 3, none⟩)) rfl rfl (by kernel_rfl) (by kernel_rfl) (by kernel_rfl) (fun _ _ _ h => h) (by rfl) hS0 (fun V hV => by obtain ⟨v1, v2, v3, v4, v5, v6⟩ := hV; go_simp) ?_
    simp only [Act.put, List.setIfInBounds_toArray, List.set_cons_zero, List.set_cons_succ]
    refine takeH 19 (some 33) (.agg #[.slice (some ⟨bU, 0, none⟩) m m, .slice (some ⟨bV, 0, none⟩) m m]) rfl rfl (by kernel_rfl) (by kernel_rfl) (by kernel_rfl) (fun _ _ _ h => h) (by rfl) hS0 (fun V hV => by obtain ⟨v1, v2, v3, v4, v5, v6⟩ := hV; go_simp) ?_
    simp only [Act.put, List.setIfInBounds_toArray, List.set_cons_zero, List.set_cons_succ]
    refine takeH 20 (some 34) (.agg #[.int .i64 (i : Int), .int .i64 (kk : Int), .int .i64 (e : Int)]) rfl rfl (by kernel_rfl) (by kernel_rfl) (by kernel_rfl) (fun _ _ _ h => h) (by rfl) hS0 (fun V hV => by obtain ⟨v1, v2, v3, v4, v5, v6⟩ := hV; go_simp) ?_
    simp only [Act.put, List.setIfInBounds_toArray, List.set_cons_zero, List.set_cons_succ]
    refine step2H 15 21 _ _ rfl rfl (by kernel_rfl) (by rfl) (by rfl) ?_ ?_
    · skip
      refine wp_of_run (v := .int .i64 (SU e)) (by go_simp) ?_
      refine ⟨hS0, ?_⟩
      simp only [Act.put, List.setIfInBounds_toArray, List.set_cons_zero, List.set_cons_succ]
      refine step1H 21 _ rfl (by kernel_rfl) (by rfl) ?_
      go_simp
      refine (upBelow_any _ m m SU _ m m SD (i, kk, e) hi hk9 HIN1.out.1 HIN1.out.2 hm' hm' _ rU rV).mono ?_
      rintro e9 w3 ⟨rfl, hb3⟩
      have hS1 := hSk w3 hb3
      refine ⟨hS1, ?_⟩
      refine takeH 22 (some 36) (.int .i64 (min (SU e) (upT SU SD (i, kk, e)))) rfl rfl (by kernel_rfl) (by kernel_rfl) (by kernel_rfl) (fun _ _ _ h => h) (by rfl) hS1 (fun V hV => min_run _ _ _ _ _ _ rfl rfl rfl) ?_
      simp only [Act.put, List.setIfInBounds_toArray, List.set_cons_zero, List.set_cons_succ]
      refine takeH 23 (some 37) (.pointer (some ⟨bU, e, none⟩)) rfl rfl (by kernel_rfl) (by kernel_rfl) (by kernel_rfl) (fun _ _ _ h => h) (by rfl) hS1 (fun V hV => by obtain ⟨v1, v2, v3, v4, v5, v6⟩ := hV; go_simp) ?_
      simp only [Act.put, List.setIfInBounds_toArray, List.set_cons_zero, List.set_cons_succ]
      have R3 := HR.out.next (below_next (Below.refl W.heap.size W).drew (Nat.le_refl _) hb3)
      have u5 := R3.up.cell he9
      have z5 := R3.up.frozen e
      refine step1H 24 _ rfl (by kernel_rfl) (by rfl) ?_
      refine wp_of_skip (w' := w3.setCell ⟨bU, e, none⟩ (.int .i64 (min (SU e) (upT SU SD (i, kk, e))))) (by go_simp) ?_
      refine ⟨hSsU _ _ hS1, ?_⟩
      simp only [Act.put, List.setIfInBounds_toArray, List.set_cons_zero, List.set_cons_succ]
      refine wpAnyH_done (by kernel_rfl) ?_ _
      have hbW := below_next (Below.refl W.heap.size W).drew (Nat.le_refl _) hb3
      have hgr := gr_setCell w3 bU e (.int .i64 (min (SU e) (upT SU SD (i, kk, e))))
      have hS2 := hSsU w3 (.int .i64 (min (SU e) (upT SU SD (i, kk, e)))) hS1
      have R4 := R3.turnU hgr ((R3.up.set e (min (SU e) (upT SU SD (i, kk, e)))).congr (g := stU (SU, SD) (i, kk, e)) (fun x hx => by unfold stU; rfl))
      have HK1 := (keeps_below (B0 := W2.heap.size) hbW).trans ((KeepsOthers.setCell w3 ⟨bU, e, none⟩ (.int .i64 (min (SU e) (upT SU SD (i, kk, e))))).from _)
      have HT1 := (Turns.of_below hbW (Nat.le_refl _) [bU, bV]).trans ((Turns.of_grown hgr).more (by simp))
      clear hS0 hSk u0 rU rV R3 u5 z5 hS1 hbW hgr HR
      generalize w3.setCell ⟨bU, e, none⟩ (.int .i64 (min (SU e) (upT SU SD (i, kk, e)))) = X1 at hS2 R4 HK1 HT1 ⊢
      clear hb3
      obtain ⟨SU', hSU⟩ : ∃ f, stU (SU, SD) (i, kk, e) = f := ⟨_, rfl⟩
      have HST : Hid (stT (SU, SD) (i, kk, e) = (SU', fun x => if x = e then min (SD e) (dnT SU' SD (i, kk, e)) else SD x)) := by
        show _ = _
        unfold stT
        rw [hSU]
      have HIN3 : Hid (InF m SU' ∧ InF m SD) := by rw [← hSU]; exact HIN2.out
      rw [hSU] at R4
      clear hSU
      have HR : Hid (Room w0 k P eo m ecap L H b g rcap bm bU bV SU' SD X1) := R4
      have u0 : X1.drew.cell? ⟨bV, e, none⟩ = some (.int .i64 (SD e)) := (R4.dn.nx (Below.refl X1.heap.size X1).drew).cell he9
      have rU : IRow X1.drew (some ⟨bU, 0, none⟩) m SU' := (R4.up.nx (Below.refl X1.heap.size X1).drew).row
      have rV : IRow X1.drew (some ⟨bV, 0, none⟩) m SD := (R4.dn.nx (Below.refl X1.heap.size X1).drew).row
      have hS0 : (fun X : World => X.cell? ⟨w.heap.size, 0, none⟩ = some (.pointer (some ⟨b, 0, none⟩)) ∧ X.cell? ⟨b, 3, none⟩ = some (.slice (some ⟨bU, 0, none⟩) m m) ∧ X.cell? ⟨b, 4, none⟩ = some (.slice (some ⟨bV, 0, none⟩) m m) ∧ X.cell? ⟨bT, 0, none⟩ = some (.int .i64 (i : Int)) ∧ X.cell? ⟨bT, 1, none⟩ = some (.int .i64 (kk : Int)) ∧ X.cell? ⟨bT, 2, none⟩ = some (.int .i64 (e : Int))) X1.drew := hS2
      have hSk : ∀ V' : World, Below X1.drew.heap.size X1.drew V' → (fun X : World => X.cell? ⟨w.heap.size, 0, none⟩ = some (.pointer (some ⟨b, 0, none⟩)) ∧ X.cell? ⟨b, 3, none⟩ = some (.slice (some ⟨bU, 0, none⟩) m m) ∧ X.cell? ⟨b, 4, none⟩ = some (.slice (some ⟨bV, 0, none⟩) m m) ∧ X.cell? ⟨bT, 0, none⟩ = some (.int .i64 (i : Int)) ∧ X.cell? ⟨bT, 1, none⟩ = some (.int .i64 (kk : Int)) ∧ X.cell? ⟨bT, 2, none⟩ = some (.int .i64 (e : Int))) V' := fun V' hb => ⟨keep_cell hb (Nat.le_refl _) hS0.1, keep_cell hb (Nat.le_refl _) hS0.2.1, keep_cell hb (Nat.le_refl _) hS0.2.2.1, keep_cell hb (Nat.le_refl _) hS0.2.2.2.1, keep_cell hb (Nat.le_refl _) hS0.2.2.2.2.1, keep_cell hb (Nat.le_refl _) hS0.2.2.2.2.2⟩
      clear R4 hS2
      gi_wp2_with fail
      refine region_round (fun X : World => X.cell? ⟨w.heap.size, 0, none⟩ = some (.pointer (some ⟨b, 0, none⟩)) ∧ X.cell? ⟨b, 3, none⟩ = some (.slice (some ⟨bU, 0, none⟩) m m) ∧ X.cell? ⟨b, 4, none⟩ = some (.slice (some ⟨bV, 0, none⟩) m m) ∧ X.cell? ⟨bT, 0, none⟩ = some (.int .i64 (i : Int)) ∧ X.cell? ⟨bT, 1, none⟩ = some (.int .i64 (kk : Int)) ∧ X.cell? ⟨bT, 2, none⟩ = some (.int .i64 (e : Int))) (by kernel_rfl) (by kernel_rfl) (fun ⟨_, _, h⟩ => h) ?_
      refine takeH 0 (some 38) (.pointer (some ⟨b, 0, none⟩)) rfl rfl (by kernel_rfl) (by kernel_rfl) (by kernel_rfl) (fun _ _ _ h => h) (by rfl) hS0 (fun V hV => by obtain ⟨v1, v2, v3, v4, v5, v6⟩ := hV; go_simp) ?_
      simp only [Act.put, List.setIfInBounds_toArray, List.set_cons_zero, List.set_cons_succ]
      refine takeH 1 (some 39) (.pointer (some ⟨b, 0, none⟩)) rfl rfl (by kernel_rfl) (by kernel_rfl) (by kernel_rfl) (fun _ _ _ h => h) (by rfl) hS0 (fun V hV => by obtain ⟨v1, v2, v3, v4, v5, v6⟩ := hV; go_simp) ?_
      simp only [Act.put, List.setIfInBounds_toArray, List.set_cons_zero, List.set_cons_succ]
      refine takeH 2 (some 40) (.pointer (some ⟨b, 3, none⟩)) rfl rfl (by kernel_rfl) (by kernel_rfl) (by kernel_rfl) (fun _ _ _ h => h) (by rfl) hS0 (fun V hV => by obtain ⟨v1, v2, v3, v4, v5, v6⟩ := hV; go_simp) ?_
      simp only [Act.put, List.setIfInBounds_toArray, List.set_cons_zero, List.set_cons_succ]
      refine takeH 3 (some 41) (.pointer (some ⟨b, 4, none⟩)) rfl rfl (by kernel_rfl) (by kernel_rfl) (by kernel_rfl) (fun _ _ _ h => h) (by rfl) hS0 (fun V hV => by obtain ⟨v1, v2, v3, v4, v5, v6⟩ := hV; go_simp) ?_
      simp only [Act.put, List.setIfInBounds_toArray, List.set_cons_zero, List.set_cons_succ]
      refine takeH 4 (some 42) (.slice (some ⟨bV, 0, none⟩) m m) rfl rfl (by kernel_rfl) (by kernel_rfl) (by kernel_rfl) (fun _ _ _ h => h) (by rfl) hS0 (fun V hV => by obtain ⟨v1, v2, v3, v4, v5, v6⟩ := hV; go_simp) ?_
      simp only [Act.put, List.setIfInBounds_toArray, List.set_cons_zero, List.set_cons_succ]
      refine takeH 5 (some 43) (.pointer (some ⟨bT, 2, none⟩)) rfl rfl (by kernel_rfl) (by kernel_rfl) (by kernel_rfl) (fun _ _ _ h => h) (by rfl) hS0 (fun V hV => by obtain ⟨v1, v2, v3, v4, v5, v6⟩ := hV; go_simp) ?_
      simp only [Act.put, List.setIfInBounds_toArray, List.set_cons_zero, List.set_cons_succ]
      refine takeH 6 (some 44) (.int .i64 (e : Int)) rfl rfl (by kernel_rfl) (by kernel_rfl) (by kernel_rfl) (fun _ _ _ h => h) (by rfl) hS0 (fun V hV => by obtain ⟨v1, v2, v3, v4, v5, v6⟩ := hV; go_simp) ?_
      simp only [Act.put, List.setIfInBounds_toArray, List.set_cons_zero, List.set_cons_succ]
      refine takeH 7 (some 45) (.pointer (some ⟨b, 0, none⟩)) rfl rfl (by kernel_rfl) (by kernel_rfl) (by kernel_rfl) (fun _ _ _ h => h) (by rfl) hS0 (fun V hV => by obtain ⟨v1, v2, v3, v4, v5, v6⟩ := hV; go_simp) ?_
      simp only [Act.put, List.setIfInBounds_toArray, List.set_cons_zero, List.set_cons_succ]
      refine takeH 8 (some 46) (.pointer (some ⟨b, 0, none⟩)) rfl rfl (by kernel_rfl) (by kernel_rfl) (by kernel_rfl) (fun _ _ _ h => h) (by rfl) hS0 (fun V hV => by obtain ⟨v1, v2, v3, v4, v5, v6⟩ := hV; go_simp) ?_
      simp only [Act.put, List.setIfInBounds_toArray, List.set_cons_zero, List.set_cons_succ]
      refine takeH 9 (some 47) (.pointer (some ⟨b, 3, none⟩)) rfl rfl (by kernel_rfl) (by kernel_rfl) (by kernel_rfl) (fun _ _ _ h => h) (by rfl) hS0 (fun V hV => by obtain ⟨v1, v2, v3, v4, v5, v6⟩ := hV; go_simp) ?_
      simp only [Act.put, List.setIfInBounds_toArray, List.set_cons_zero, List.set_cons_succ]
      refine takeH 10 (some 48) (.pointer (some ⟨b, 4, none⟩)) rfl rfl (by kernel_rfl) (by kernel_rfl) (by kernel_rfl) (fun _ _ _ h => h) (by rfl) hS0 (fun V hV => by obtain ⟨v1, v2, v3, v4, v5, v6⟩ := hV; go_simp) ?_
      simp only [Act.put, List.setIfInBounds_toArray, List.set_cons_zero, List.set_cons_succ]
      refine takeH 11 (some 49) (.slice (some ⟨bV, 0, none⟩) m m) rfl rfl (by kernel_rfl) (by kernel_rfl) (by kernel_rfl) (fun _ _ _ h => h) (by rfl) hS0 (fun V hV => by obtain ⟨v1, v2, v3, v4, v5, v6⟩ := hV; go_simp) ?_
      simp only [Act.put, List.setIfInBounds_toArray, List.set_cons_zero, List.set_cons_succ]
      refine takeH 12 (some 50) (.pointer (some ⟨bT, 2, none⟩)) rfl rfl (by kernel_rfl) (by kernel_rfl) (by kernel_rfl) (fun _ _ _ h => h) (by rfl) hS0 (fun V hV => by obtain ⟨v1, v2, v3, v4, v5, v6⟩ := hV; go_simp) ?_
      simp only [Act.put, List.setIfInBounds_toArray, List.set_cons_zero, List.set_cons_succ]
      refine takeH 13 (some 51) (.int .i64 (e : Int)) rfl rfl (by kernel_rfl) (by kernel_rfl) (by kernel_rfl) (fun _ _ _ h => h) (by rfl) hS0 (fun V hV => by obtain ⟨v1, v2, v3, v4, v5, v6⟩ := hV; go_simp) ?_
      simp only [Act.put, List.setIfInBounds_toArray, List.set_cons_zero, List.set_cons_succ]
      refine takeH 14 (some 52) (.pointer (some ⟨bV, e, none⟩)) rfl rfl (by kernel_rfl) (by kernel_rfl) (by kernel_rfl) (fun _ _ _ h => h) (by rfl) hS0 (fun V hV => by obtain ⟨v1, v2, v3, v4, v5, v6⟩ := hV; go_simp) ?_
      simp only [Act.put, List.setIfInBounds_toArray, List.set_cons_zero, List.set_cons_succ]
      refine takeH 16 (some 54) (.pointer (some ⟨b, 0, none⟩)) rfl rfl (by kernel_rfl) (by kernel_rfl) (by kernel_rfl) (fun _ _ _ h => h) (by rfl) hS0 (fun V hV => by obtain ⟨v1, v2, v3, v4, v5, v6⟩ := hV; go_simp) ?_
      simp only [Act.put, List.setIfInBounds_toArray, List.set_cons_zero, List.set_cons_succ]
      refine takeH 17 (some 55) (.pointer (some ⟨b, 0, none⟩)) rfl rfl (by kernel_rfl) (by kernel_rfl) (by kernel_rfl) (fun _ _ _ h => h) (by rfl) hS0 (fun V hV => by obtain ⟨v1, v2, v3, v4, v5, v6⟩ := hV; go_simp) ?_
      simp only [Act.put, List.setIfInBounds_toArray, List.set_cons_zero, List.set_cons_succ]
      refine takeH 18 (some 56) (.pointer (some ⟨b, 3, none⟩)) rfl rfl (by kernel_rfl) (by kernel_rfl) (by kernel_rfl) (fun _ _ _ h => h) (by rfl) hS0 (fun V hV => by obtain ⟨v1, v2, v3, v4, v5, v6⟩ := hV; go_simp) ?_
      simp only [Act.put, List.setIfInBounds_toArray, List.set_cons_zero, List.set_cons_succ]
      refine takeH 19 (some 57) (.agg #[.slice (some ⟨bU, 0, none⟩) m m, .slice (some ⟨bV, 0, none⟩) m m]) rfl rfl (by kernel_rfl) (by kernel_rfl) (by kernel_rfl) (fun _ _ _ h => h) (by rfl) hS0 (fun V hV => by obtain ⟨v1, v2, v3, v4, v5, v6⟩ := hV; go_simp) ?_
      simp only [Act.put, List.setIfInBounds_toArray, List.set_cons_zero, List.set_cons_succ]
      refine takeH 20 (some 58) (.agg #[.int .i64 (i : Int), .int .i64 (kk : Int), .int .i64 (e : Int)]) rfl rfl (by kernel_rfl) (by kernel_rfl) (by kernel_rfl) (fun _ _ _ h => h) (by rfl) hS0 (fun V hV => by obtain ⟨v1, v2, v3, v4, v5, v6⟩ := hV; go_simp) ?_
      simp only [Act.put, List.setIfInBounds_toArray, List.set_cons_zero, List.set_cons_succ]
      refine step2H 15 21 _ _ rfl rfl (by kernel_rfl) (by rfl) (by rfl) ?_ ?_
      · skip
        refine wp_of_run (v := .int .i64 (SD e)) (by go_simp) ?_
        refine ⟨hS0, ?_⟩
        simp only [Act.put, List.setIfInBounds_toArray, List.set_cons_zero, List.set_cons_succ]
        refine step1H 21 _ rfl (by kernel_rfl) (by rfl) ?_
        go_simp
        refine (downBelow_any _ m m SU' _ m m SD (i, kk, e) hk9 hi HIN3.out.1 HIN3.out.2 hm' hm' _ rU rV).mono ?_
        rintro e9 w3 ⟨rfl, hb3⟩
        have hS1 := hSk w3 hb3
        refine ⟨hS1, ?_⟩
        refine takeH 22 (some 60) (.int .i64 (min (SD e) (dnT SU' SD (i, kk, e)))) rfl rfl (by kernel_rfl) (by kernel_rfl) (by kernel_rfl) (fun _ _ _ h => h) (by rfl) hS1 (fun V hV => min_run _ _ _ _ _ _ rfl rfl rfl) ?_
        simp only [Act.put, List.setIfInBounds_toArray, List.set_cons_zero, List.set_cons_succ]
        refine takeH 23 (some 61) (.pointer (some ⟨bV, e, none⟩)) rfl rfl (by kernel_rfl) (by kernel_rfl) (by kernel_rfl) (fun _ _ _ h => h) (by rfl) hS1 (fun V hV => by obtain ⟨v1, v2, v3, v4, v5, v6⟩ := hV; go_simp) ?_
        simp only [Act.put, List.setIfInBounds_toArray, List.set_cons_zero, List.set_cons_succ]
        have R3 := HR.out.next (below_next (Below.refl X1.heap.size X1).drew (Nat.le_refl _) hb3)
        have u5 := R3.dn.cell he9
        have z5 := R3.dn.frozen e
        refine step1H 24 _ rfl (by kernel_rfl) (by rfl) ?_
        refine wp_of_skip (w' := w3.setCell ⟨bV, e, none⟩ (.int .i64 (min (SD e) (dnT SU' SD (i, kk, e))))) (by go_simp) ?_
        refine ⟨hSsV _ _ hS1, ?_⟩
        simp only [Act.put, List.setIfInBounds_toArray, List.set_cons_zero, List.set_cons_succ]
        refine wpAnyH_done (by kernel_rfl) ?_ _
        have hbW := below_next (Below.refl X1.heap.size X1).drew (Nat.le_refl _) hb3
        have hgr := gr_setCell w3 bV e (.int .i64 (min (SD e) (dnT SU' SD (i, kk, e))))
        have hS2 := hSsV w3 (.int .i64 (min (SD e) (dnT SU' SD (i, kk, e)))) hS1
        have R4 := R3.turnD hgr ((R3.dn.set e (min (SD e) (dnT SU' SD (i, kk, e)))).congr (g := fun x => if x = e then min (SD e) (dnT SU' SD (i, kk, e)) else SD x) (fun x hx => rfl))
        have HK2 := HK1.trans ((keeps_below (B0 := W2.heap.size) hbW).trans ((KeepsOthers.setCell w3 ⟨bV, e, none⟩ (.int .i64 (min (SD e) (dnT SU' SD (i, kk, e))))).from _))
        have HT2 := (HT1.trans (Turns.of_below hbW (Nat.le_refl _) [bU, bV])).trans ((Turns.of_grown hgr).more (by simp))
        clear hS0 hSk u0 rU rV R3 u5 z5 hS1 hbW hgr HR HK1 HT1
        generalize w3.setCell ⟨bV, e, none⟩ (.int .i64 (min (SD e) (dnT SU' SD (i, kk, e)))) = X2 at hS2 R4 HK2 HT2 ⊢
        clear hb3
        have hsX := HT2.size
        gi_wp2_with fail
        refine ⟨(by first | exact HK2 | (rw [← hs2]; exact HK2)), ⟨⟨hsX, fun q x hq hk _ => (HT2.block q (Array.getElem?_eq_some_iff.1 hk).1 (by simp; omega)).trans hk⟩, fun h => ⟨HT2.cell (by simp; omega) h.1, he.below R4.bel (Nat.le_refl _)⟩⟩, ⟨?_, by omega⟩, hS2.1, hTw.trans HT2⟩
        rw [HSN.out, HST.out]
        exact R4
      · skip
        go_simp
        refine (downBelow_any _ m m SU' _ m m SD (i, kk, e) hk9 hi HIN3.out.1 HIN3.out.2 hm' hm' _ rU rV).mono ?_
        rintro e9 w3 ⟨rfl, hb3⟩
        have hS1 := hSk w3 hb3
        refine ⟨hS1, ?_⟩
        have u3 := keep_cell hb3 (Nat.le_refl _) u0
        refine step1H 15 _ rfl (by kernel_rfl) (by rfl) ?_
        refine wp_of_run (v := .int .i64 (SD e)) (by go_simp) ?_
        refine ⟨hS1, ?_⟩
        simp only [Act.put, List.setIfInBounds_toArray, List.set_cons_zero, List.set_cons_succ]
        clear u3
        refine takeH 22 (some 60) (.int .i64 (min (SD e) (dnT SU' SD (i, kk, e)))) rfl rfl (by kernel_rfl) (by kernel_rfl) (by kernel_rfl) (fun _ _ _ h => h) (by rfl) hS1 (fun V hV => min_run _ _ _ _ _ _ rfl rfl rfl) ?_
        simp only [Act.put, List.setIfInBounds_toArray, List.set_cons_zero, List.set_cons_succ]
        refine takeH 23 (some 61) (.pointer (some ⟨bV, e, none⟩)) rfl rfl (by kernel_rfl) (by kernel_rfl) (by kernel_rfl) (fun _ _ _ h => h) (by rfl) hS1 (fun V hV => by obtain ⟨v1, v2, v3, v4, v5, v6⟩ := hV; go_simp) ?_
        simp only [Act.put, List.setIfInBounds_toArray, List.set_cons_zero, List.set_cons_succ]
        have R3 := HR.out.next (below_next (Below.refl X1.heap.size X1).drew (Nat.le_refl _) hb3)
        have u5 := R3.dn.cell he9
        have z5 := R3.dn.frozen e
        refine step1H 24 _ rfl (by kernel_rfl) (by rfl) ?_
        refine wp_of_skip (w' := w3.setCell ⟨bV, e, none⟩ (.int .i64 (min (SD e) (dnT SU' SD (i, kk, e))))) (by go_simp) ?_
        refine ⟨hSsV _ _ hS1, ?_⟩
        simp only [Act.put, List.setIfInBounds_toArray, List.set_cons_zero, List.set_cons_succ]
        refine wpAnyH_done (by kernel_rfl) ?_ _
        have hbW := below_next (Below.refl X1.heap.size X1).drew (Nat.le_refl _) hb3
        have hgr := gr_setCell w3 bV e (.int .i64 (min (SD e) (dnT SU' SD (i, kk, e))))
        have hS2 := hSsV w3 (.int .i64 (min (SD e) (dnT SU' SD (i, kk, e)))) hS1
        have R4 := R3.turnD hgr ((R3.dn.set e (min (SD e) (dnT SU' SD (i, kk, e)))).congr (g := fun x => if x = e then min (SD e) (dnT SU' SD (i, kk, e)) else SD x) (fun x hx => rfl))
        have HK2 := HK1.trans ((keeps_below (B0 := W2.heap.size) hbW).trans ((KeepsOthers.setCell w3 ⟨bV, e, none⟩ (.int .i64 (min (SD e) (dnT SU' SD (i, kk, e))))).from _))
        have HT2 := (HT1.trans (Turns.of_below hbW (Nat.le_refl _) [bU, bV])).trans ((Turns.of_grown hgr).more (by simp))
        clear hS0 hSk u0 rU rV R3 u5 z5 hS1 hbW hgr HR HK1 HT1
        generalize w3.setCell ⟨bV, e, none⟩ (.int .i64 (min (SD e) (dnT SU' SD (i, kk, e)))) = X2 at hS2 R4 HK2 HT2 ⊢
        clear hb3
        have hsX := HT2.size
        gi_wp2_with fail
        refine ⟨(by first | exact HK2 | (rw [← hs2]; exact HK2)), ⟨⟨hsX, fun q x hq hk _ => (HT2.block q (Array.getElem?_eq_some_iff.1 hk).1 (by simp; omega)).trans hk⟩, fun h => ⟨HT2.cell (by simp; omega) h.1, he.below R4.bel (Nat.le_refl _)⟩⟩, ⟨?_, by omega⟩, hS2.1, hTw.trans HT2⟩
        rw [HSN.out, HST.out]
        exact R4
    · skip
      go_simp
      refine (upBelow_any _ m m SU _ m m SD (i, kk, e) hi hk9 HIN1.out.1 HIN1.out.2 hm' hm' _ rU rV).mono ?_
      rintro e9 w3 ⟨rfl, hb3⟩
      have hS1 := hSk w3 hb3
      refine ⟨hS1, ?_⟩
      have u3 := keep_cell hb3 (Nat.le_refl _) u0
      refine step1H 15 _ rfl (by kernel_rfl) (by rfl) ?_
      refine wp_of_run (v := .int .i64 (SU e)) (by go_simp) ?_
      refine ⟨hS1, ?_⟩
      simp only [Act.put, List.setIfInBounds_toArray, List.set_cons_zero, List.set_cons_succ]
      clear u3
      refine takeH 22 (some 36) (.int .i64 (min (SU e) (upT SU SD (i, kk, e)))) rfl rfl (by kernel_rfl) (by kernel_rfl) (by kernel_rfl) (fun _ _ _ h => h) (by rfl) hS1 (fun V hV => min_run _ _ _ _ _ _ rfl rfl rfl) ?_
      simp only [Act.put, List.setIfInBounds_toArray, List.set_cons_zero, List.set_cons_succ]
      refine takeH 23 (some 37) (.pointer (some ⟨bU, e, none⟩)) rfl rfl (by kernel_rfl) (by kernel_rfl) (by kernel_rfl) (fun _ _ _ h => h) (by rfl) hS1 (fun V hV => by obtain ⟨v1, v2, v3, v4, v5, v6⟩ := hV; go_simp) ?_
      simp only [Act.put, List.setIfInBounds_toArray, List.set_cons_zero, List.set_cons_succ]
      have R3 := HR.out.next (below_next (Below.refl W.heap.size W).drew (Nat.le_refl _) hb3)
      have u5 := R3.up.cell he9
      have z5 := R3.up.frozen e
      refine step1H 24 _ rfl (by kernel_rfl) (by rfl) ?_
      refine wp_of_skip (w' := w3.setCell ⟨bU, e, none⟩ (.int .i64 (min (SU e) (upT SU SD (i, kk, e))))) (by go_simp) ?_
      refine ⟨hSsU _ _ hS1, ?_⟩
      simp only [Act.put, List.setIfInBounds_toArray, List.set_cons_zero, List.set_cons_succ]
      refine wpAnyH_done (by kernel_rfl) ?_ _
      have hbW := below_next (Below.refl W.heap.size W).drew (Nat.le_refl _) hb3
      have hgr := gr_setCell w3 bU e (.int .i64 (min (SU e) (upT SU SD (i, kk, e))))
      have hS2 := hSsU w3 (.int .i64 (min (SU e) (upT SU SD (i, kk, e)))) hS1
      have R4 := R3.turnU hgr ((R3.up.set e (min (SU e) (upT SU SD (i, kk, e)))).congr (g := stU (SU, SD) (i, kk, e)) (fun x hx => by unfold stU; rfl))
      have HK1 := (keeps_below (B0 := W2.heap.size) hbW).trans ((KeepsOthers.setCell w3 ⟨bU, e, none⟩ (.int .i64 (min (SU e) (upT SU SD (i, kk, e))))).from _)
      have HT1 := (Turns.of_below hbW (Nat.le_refl _) [bU, bV]).trans ((Turns.of_grown hgr).more (by simp))
      clear hS0 hSk u0 rU rV R3 u5 z5 hS1 hbW hgr HR
      generalize w3.setCell ⟨bU, e, none⟩ (.int .i64 (min (SU e) (upT SU SD (i, kk, e)))) = X1 at hS2 R4 HK1 HT1 ⊢
      clear hb3
      obtain ⟨SU', hSU⟩ : ∃ f, stU (SU, SD) (i, kk, e) = f := ⟨_, rfl⟩
      have HST : Hid (stT (SU, SD) (i, kk, e) = (SU', fun x => if x = e then min (SD e) (dnT SU' SD (i, kk, e)) else SD x)) := by
        show _ = _
        unfold stT
        rw [hSU]
      have HIN3 : Hid (InF m SU' ∧ InF m SD) := by rw [← hSU]; exact HIN2.out
      rw [hSU] at R4
      clear hSU
      have HR : Hid (Room w0 k P eo m ecap L H b g rcap bm bU bV SU' SD X1) := R4
      have u0 : X1.drew.cell? ⟨bV, e, none⟩ = some (.int .i64 (SD e)) := (R4.dn.nx (Below.refl X1.heap.size X1).drew).cell he9
      have rU : IRow X1.drew (some ⟨bU, 0, none⟩) m SU' := (R4.up.nx (Below.refl X1.heap.size X1).drew).row
      have rV : IRow X1.drew (some ⟨bV, 0, none⟩) m SD := (R4.dn.nx (Below.refl X1.heap.size X1).drew).row
      have hS0 : (fun X : World => X.cell? ⟨w.heap.size, 0, none⟩ = some (.pointer (some ⟨b, 0, none⟩)) ∧ X.cell? ⟨b, 3, none⟩ = some (.slice (some ⟨bU, 0, none⟩) m m) ∧ X.cell? ⟨b, 4, none⟩ = some (.slice (some ⟨bV, 0, none⟩) m m) ∧ X.cell? ⟨bT, 0, none⟩ = some (.int .i64 (i : Int)) ∧ X.cell? ⟨bT, 1, none⟩ = some (.int .i64 (kk : Int)) ∧ X.cell? ⟨bT, 2, none⟩ = some (.int .i64 (e : Int))) X1.drew := hS2
      have hSk : ∀ V' : World, Below X1.drew.heap.size X1.drew V' → (fun X : World => X.cell? ⟨w.heap.size, 0, none⟩ = some (.pointer (some ⟨b, 0, none⟩)) ∧ X.cell? ⟨b, 3, none⟩ = some (.slice (some ⟨bU, 0, none⟩) m m) ∧ X.cell? ⟨b, 4, none⟩ = some (.slice (some ⟨bV, 0, none⟩) m m) ∧ X.cell? ⟨bT, 0, none⟩ = some (.int .i64 (i : Int)) ∧ X.cell? ⟨bT, 1, none⟩ = some (.int .i64 (kk : Int)) ∧ X.cell? ⟨bT, 2, none⟩ = some (.int .i64 (e : Int))) V' := fun V' hb => ⟨keep_cell hb (Nat.le_refl _) hS0.1, keep_cell hb (Nat.le_refl _) hS0.2.1, keep_cell hb (Nat.le_refl _) hS0.2.2.1, keep_cell hb (Nat.le_refl _) hS0.2.2.2.1, keep_cell hb (Nat.le_refl _) hS0.2.2.2.2.1, keep_cell hb (Nat.le_refl _) hS0.2.2.2.2.2⟩
      clear R4 hS2
      gi_wp2_with fail
      refine region_round (fun X : World => X.cell? ⟨w.heap.size, 0, none⟩ = some (.pointer (some ⟨b, 0, none⟩)) ∧ X.cell? ⟨b, 3, none⟩ = some (.slice (some ⟨bU, 0, none⟩) m m) ∧ X.cell? ⟨b, 4, none⟩ = some (.slice (some ⟨bV, 0, none⟩) m m) ∧ X.cell? ⟨bT, 0, none⟩ = some (.int .i64 (i : Int)) ∧ X.cell? ⟨bT, 1, none⟩ = some (.int .i64 (kk : Int)) ∧ X.cell? ⟨bT, 2, none⟩ = some (.int .i64 (e : Int))) (by kernel_rfl) (by kernel_rfl) (fun ⟨_, _, h⟩ => h) ?_
      refine takeH 0 (some 38) (.pointer (some ⟨b, 0, none⟩)) rfl rfl (by kernel_rfl) (by kernel_rfl) (by kernel_rfl) (fun _ _ _ h => h) (by rfl) hS0 (fun V hV => by obtain ⟨v1, v2, v3, v4, v5, v6⟩ := hV; go_simp) ?_
      simp only [Act.put, List.setIfInBounds_toArray, List.set_cons_zero, List.set_cons_succ]
      refine takeH 1 (some 39) (.pointer (some ⟨b, 0, none⟩)) rfl rfl (by kernel_rfl) (by kernel_rfl) (by kernel_rfl) (fun _ _ _ h => h) (by rfl) hS0 (fun V hV => by obtain ⟨v1, v2, v3, v4, v5, v6⟩ := hV; go_simp) ?_
      simp only [Act.put, List.setIfInBounds_toArray, List.set_cons_zero, List.set_cons_succ]
      refine takeH 2 (some 40) (.pointer (some ⟨b, 3, none⟩)) rfl rfl (by kernel_rfl) (by kernel_rfl) (by kernel_rfl) (fun _ _ _ h => h) (by rfl) hS0 (fun V hV => by obtain ⟨v1, v2, v3, v4, v5, v6⟩ := hV; go_simp) ?_
      simp only [Act.put, List.setIfInBounds_toArray, List.set_cons_zero, List.set_cons_succ]
      refine takeH 3 (some 41) (.pointer (some ⟨b, 4, none⟩)) rfl rfl (by kernel_rfl) (by kernel_rfl) (by kernel_rfl) (fun _ _ _ h => h) (by rfl) hS0 (fun V hV => by obtain ⟨v1, v2, v3, v4, v5, v6⟩ := hV; go_simp) ?_
      simp only [Act.put, List.setIfInBounds_toArray, List.set_cons_zero, List.set_cons_succ]
      refine takeH 4 (some 42) (.slice (some ⟨bV, 0, none⟩) m m) rfl rfl (by kernel_rfl) (by kernel_rfl) (by kernel_rfl) (fun _ _ _ h => h) (by rfl) hS0 (fun V hV => by obtain ⟨v1, v2, v3, v4, v5, v6⟩ := hV; go_simp) ?_
      simp only [Act.put, List.setIfInBounds_toArray, List.set_cons_zero, List.set_cons_succ]
      refine takeH 5 (some 43) (.pointer (some ⟨bT, 2, none⟩)) rfl rfl (by kernel_rfl) (by kernel_rfl) (by kernel_rfl) (fun _ _ _ h => h) (by rfl) hS0 (fun V hV => by obtain ⟨v1, v2, v3, v4, v5, v6⟩ := hV; go_simp) ?_
      simp only [Act.put, List.setIfInBounds_toArray, List.set_cons_zero, List.set_cons_succ]
      refine takeH 6 (some 44) (.int .i64 (e : Int)) rfl rfl (by kernel_rfl) (by kernel_rfl) (by kernel_rfl) (fun _ _ _ h => h) (by rfl) hS0 (fun V hV => by obtain ⟨v1, v2, v3, v4, v5, v6⟩ := hV; go_simp) ?_
      simp only [Act.put, List.setIfInBounds_toArray, List.set_cons_zero, List.set_cons_succ]
      refine takeH 7 (some 45) (.pointer (some ⟨b, 0, none⟩)) rfl rfl (by kernel_rfl) (by kernel_rfl) (by kernel_rfl) (fun _ _ _ h => h) (by rfl) hS0 (fun V hV => by obtain ⟨v1, v2, v3, v4, v5, v6⟩ := hV; go_simp) ?_
      simp only [Act.put, List.setIfInBounds_toArray, List.set_cons_zero, List.set_cons_succ]
      refine takeH 8 (some 46) (.pointer (some ⟨b, 0, none⟩)) rfl rfl (by kernel_rfl) (by kernel_rfl) (by kernel_rfl) (fun _ _ _ h => h) (by rfl) hS0 (fun V hV => by obtain ⟨v1, v2, v3, v4, v5, v6⟩ := hV; go_simp) ?_
      simp only [Act.put, List.setIfInBounds_toArray, List.set_cons_zero, List.set_cons_succ]
      refine takeH 9 (some 47) (.pointer (some ⟨b, 3, none⟩)) rfl rfl (by kernel_rfl) (by kernel_rfl) (by kernel_rfl) (fun _ _ _ h => h) (by rfl) hS0 (fun V hV => by obtain ⟨v1, v2, v3, v4, v5, v6⟩ := hV; go_simp) ?_
      simp only [Act.put, List.setIfInBounds_toArray, List.set_cons_zero, List.set_cons_succ]
      refine takeH 10 (some 48) (.pointer (some ⟨b, 4, none⟩)) rfl rfl (by kernel_rfl) (by kernel_rfl) (by kernel_rfl) (fun _ _ _ h => h) (by rfl) hS0 (fun V hV => by obtain ⟨v1, v2, v3, v4, v5, v6⟩ := hV; go_simp) ?_
      simp only [Act.put, List.setIfInBounds_toArray, List.set_cons_zero, List.set_cons_succ]
      refine takeH 11 (some 49) (.slice (some ⟨bV, 0, none⟩) m m) rfl rfl (by kernel_rfl) (by kernel_rfl) (by kernel_rfl) (fun _ _ _ h => h) (by rfl) hS0 (fun V hV => by obtain ⟨v1, v2, v3, v4, v5, v6⟩ := hV; go_simp) ?_
      simp only [Act.put, List.setIfInBounds_toArray, List.set_cons_zero, List.set_cons_succ]
      refine takeH 12 (some 50) (.pointer (some ⟨bT, 2, none⟩)) rfl rfl (by kernel_rfl) (by kernel_rfl) (by kernel_rfl) (fun _ _ _ h => h) (by rfl) hS0 (fun V hV => by obtain ⟨v1, v2, v3, v4, v5, v6⟩ := hV; go_simp) ?_
      simp only [Act.put, List.setIfInBounds_toArray, List.set_cons_zero, List.set_cons_succ]
      refine takeH 13 (some 51) (.int .i64 (e : Int)) rfl rfl (by kernel_rfl) (by kernel_rfl) (by kernel_rfl) (fun _ _ _ h => h) (by rfl) hS0 (fun V hV => by obtain ⟨v1, v2, v3, v4, v5, v6⟩ := hV; go_simp) ?_
      simp only [Act.put, List.setIfInBounds_toArray, List.set_cons_zero, List.set_cons_succ]
      refine takeH 14 (some 52) (.pointer (some ⟨bV, e, none⟩)) rfl rfl (by kernel_rfl) (by kernel_rfl) (by kernel_rfl) (fun _ _ _ h => h) (by rfl) hS0 (fun V hV => by obtain ⟨v1, v2, v3, v4, v5, v6⟩ := hV; go_simp) ?_
      simp only [Act.put, List.setIfInBounds_toArray, List.set_cons_zero, List.set_cons_succ]
      refine takeH 16 (some 54) (.pointer (some ⟨b, 0, none⟩)) rfl rfl (by kernel_rfl) (by kernel_rfl) (by kernel_rfl) (fun _ _ _ h => h) (by rfl) hS0 (fun V hV => by obtain ⟨v1, v2, v3, v4, v5, v6⟩ := hV; go_simp) ?_
      simp only [Act.put, List.setIfInBounds_toArray, List.set_cons_zero, List.set_cons_succ]
      refine takeH 17 (some 55) (.pointer (some ⟨b, 0, none⟩)) rfl rfl (by kernel_rfl) (by kernel_rfl) (by kernel_rfl) (fun _ _ _ h => h) (by rfl) hS0 (fun V hV => by obtain ⟨v1, v2, v3, v4, v5, v6⟩ := hV; go_simp) ?_
      simp only [Act.put, List.setIfInBounds_toArray, List.set_cons_zero, List.set_cons_succ]
      refine takeH 18 (some 56) (.pointer (some ⟨b, 3, none⟩)) rfl rfl (by kernel_rfl) (by kernel_rfl) (by kernel_rfl) (fun _ _ _ h => h) (by rfl) hS0 (fun V hV => by obtain ⟨v1, v2, v3, v4, v5, v6⟩ := hV; go_simp) ?_
      simp only [Act.put, List.setIfInBounds_toArray, List.set_cons_zero, List.set_cons_succ]
      refine takeH 19 (some 57) (.agg #[.slice (some ⟨bU, 0, none⟩) m m, .slice (some ⟨bV, 0, none⟩) m m]) rfl rfl (by kernel_rfl) (by kernel_rfl) (by kernel_rfl) (fun _ _ _ h => h) (by rfl) hS0 (fun V hV => by obtain ⟨v1, v2, v3, v4, v5, v6⟩ := hV; go_simp) ?_
      simp only [Act.put, List.setIfInBounds_toArray, List.set_cons_zero, List.set_cons_succ]
      refine takeH 20 (some 58) (.agg #[.int .i64 (i : Int), .int .i64 (kk : Int), .int .i64 (e : Int)]) rfl rfl (by kernel_rfl) (by kernel_rfl) (by kernel_rfl) (fun _ _ _ h => h) (by rfl) hS0 (fun V hV => by obtain ⟨v1, v2, v3, v4, v5, v6⟩ := hV; go_simp) ?_
      simp only [Act.put, List.setIfInBounds_toArray, List.set_cons_zero, List.set_cons_succ]
      refine step2H 15 21 _ _ rfl rfl (by kernel_rfl) (by rfl) (by rfl) ?_ ?_
      · skip
        refine wp_of_run (v := .int .i64 (SD e)) (by go_simp) ?_
        refine ⟨hS0, ?_⟩
        simp only [Act.put, List.setIfInBounds_toArray, List.set_cons_zero, List.set_cons_succ]
        refine step1H 21 _ rfl (by kernel_rfl) (by rfl) ?_
        go_simp
        refine (downBelow_any _ m m SU' _ m m SD (i, kk, e) hk9 hi HIN3.out.1 HIN3.out.2 hm' hm' _ rU rV).mono ?_
        rintro e9 w3 ⟨rfl, hb3⟩
        have hS1 := hSk w3 hb3
        refine ⟨hS1, ?_⟩
        refine takeH 22 (some 60) (.int .i64 (min (SD e) (dnT SU' SD (i, kk, e)))) rfl rfl (by kernel_rfl) (by kernel_rfl) (by kernel_rfl) (fun _ _ _ h => h) (by rfl) hS1 (fun V hV => min_run _ _ _ _ _ _ rfl rfl rfl) ?_
        simp only [Act.put, List.setIfInBounds_toArray, List.set_cons_zero, List.set_cons_succ]
        refine takeH 23 (some 61) (.pointer (some ⟨bV, e, none⟩)) rfl rfl (by kernel_rfl) (by kernel_rfl) (by kernel_rfl) (fun _ _ _ h => h) (by rfl) hS1 (fun V hV => by obtain ⟨v1, v2, v3, v4, v5, v6⟩ := hV; go_simp) ?_
        simp only [Act.put, List.setIfInBounds_toArray, List.set_cons_zero, List.set_cons_succ]
        have R3 := HR.out.next (below_next (Below.refl X1.heap.size X1).drew (Nat.le_refl _) hb3)
        have u5 := R3.dn.cell he9
        have z5 := R3.dn.frozen e
        refine step1H 24 _ rfl (by kernel_rfl) (by rfl) ?_
        refine wp_of_skip (w' := w3.setCell ⟨bV, e, none⟩ (.int .i64 (min (SD e) (dnT SU' SD (i, kk, e))))) (by go_simp) ?_
        refine ⟨hSsV _ _ hS1, ?_⟩
        simp only [Act.put, List.setIfInBounds_toArray, List.set_cons_zero, List.set_cons_succ]
        refine wpAnyH_done (by kernel_rfl) ?_ _
        have hbW := below_next (Below.refl X1.heap.size X1).drew (Nat.le_refl _) hb3
        have hgr := gr_setCell w3 bV e (.int .i64 (min (SD e) (dnT SU' SD (i, kk, e))))
        have hS2 := hSsV w3 (.int .i64 (min (SD e) (dnT SU' SD (i, kk, e)))) hS1
        have R4 := R3.turnD hgr ((R3.dn.set e (min (SD e) (dnT SU' SD (i, kk, e)))).congr (g := fun x => if x = e then min (SD e) (dnT SU' SD (i, kk, e)) else SD x) (fun x hx => rfl))
        have HK2 := HK1.trans ((keeps_below (B0 := W2.heap.size) hbW).trans ((KeepsOthers.setCell w3 ⟨bV, e, none⟩ (.int .i64 (min (SD e) (dnT SU' SD (i, kk, e))))).from _))
        have HT2 := (HT1.trans (Turns.of_below hbW (Nat.le_refl _) [bU, bV])).trans ((Turns.of_grown hgr).more (by simp))
        clear hS0 hSk u0 rU rV R3 u5 z5 hS1 hbW hgr HR HK1 HT1
        generalize w3.setCell ⟨bV, e, none⟩ (.int .i64 (min (SD e) (dnT SU' SD (i, kk, e)))) = X2 at hS2 R4 HK2 HT2 ⊢
        clear hb3
        have hsX := HT2.size
        gi_wp2_with fail
        refine ⟨(by first | exact HK2 | (rw [← hs2]; exact HK2)), ⟨⟨hsX, fun q x hq hk _ => (HT2.block q (Array.getElem?_eq_some_iff.1 hk).1 (by simp; omega)).trans hk⟩, fun h => ⟨HT2.cell (by simp; omega) h.1, he.below R4.bel (Nat.le_refl _)⟩⟩, ⟨?_, by omega⟩, hS2.1, hTw.trans HT2⟩
        rw [HSN.out, HST.out]
        exact R4
      · skip
        go_simp
        refine (downBelow_any _ m m SU' _ m m SD (i, kk, e) hk9 hi HIN3.out.1 HIN3.out.2 hm' hm' _ rU rV).mono ?_
        rintro e9 w3 ⟨rfl, hb3⟩
        have hS1 := hSk w3 hb3
        refine ⟨hS1, ?_⟩
        have u3 := keep_cell hb3 (Nat.le_refl _) u0
        refine step1H 15 _ rfl (by kernel_rfl) (by rfl) ?_
        refine wp_of_run (v := .int .i64 (SD e)) (by go_simp) ?_
        refine ⟨hS1, ?_⟩
        simp only [Act.put, List.setIfInBounds_toArray, List.set_cons_zero, List.set_cons_succ]
        clear u3
        refine takeH 22 (some 60) (.int .i64 (min (SD e) (dnT SU' SD (i, kk, e)))) rfl rfl (by kernel_rfl) (by kernel_rfl) (by kernel_rfl) (fun _ _ _ h => h) (by rfl) hS1 (fun V hV => min_run _ _ _ _ _ _ rfl rfl rfl) ?_
        simp only [Act.put, List.setIfInBounds_toArray, List.set_cons_zero, List.set_cons_succ]
        refine takeH 23 (some 61) (.pointer (some ⟨bV, e, none⟩)) rfl rfl (by kernel_rfl) (by kernel_rfl) (by kernel_rfl) (fun _ _ _ h => h) (by rfl) hS1 (fun V hV => by obtain ⟨v1, v2, v3, v4, v5, v6⟩ := hV; go_simp) ?_
        simp only [Act.put, List.setIfInBounds_toArray, List.set_cons_zero, List.set_cons_succ]
        have R3 := HR.out.next (below_next (Below.refl X1.heap.size X1).drew (Nat.le_refl _) hb3)
        have u5 := R3.dn.cell he9
        have z5 := R3.dn.frozen e
        refine step1H 24 _ rfl (by kernel_rfl) (by rfl) ?_
        refine wp_of_skip (w' := w3.setCell ⟨bV, e, none⟩ (.int .i64 (min (SD e) (dnT SU' SD (i, kk, e))))) (by go_simp) ?_
        refine ⟨hSsV _ _ hS1, ?_⟩
        simp only [Act.put, List.setIfInBounds_toArray, List.set_cons_zero, List.set_cons_succ]
        refine wpAnyH_done (by kernel_rfl) ?_ _
        have hbW := below_next (Below.refl X1.heap.size X1).drew (Nat.le_refl _) hb3
        have hgr := gr_setCell w3 bV e (.int .i64 (min (SD e) (dnT SU' SD (i, kk, e))))
        have hS2 := hSsV w3 (.int .i64 (min (SD e) (dnT SU' SD (i, kk, e)))) hS1
        have R4 := R3.turnD hgr ((R3.dn.set e (min (SD e) (dnT SU' SD (i, kk, e)))).congr (g := fun x => if x = e then min (SD e) (dnT SU' SD (i, kk, e)) else SD x) (fun x hx => rfl))
        have HK2 := HK1.trans ((keeps_below (B0 := W2.heap.size) hbW).trans ((KeepsOthers.setCell w3 ⟨bV, e, none⟩ (.int .i64 (min (SD e) (dnT SU' SD (i, kk, e))))).from _))
        have HT2 := (HT1.trans (Turns.of_below hbW (Nat.le_refl _) [bU, bV])).trans ((Turns.of_grown hgr).more (by simp))
        clear hS0 hSk u0 rU rV R3 u5 z5 hS1 hbW hgr HR HK1 HT1
        generalize w3.setCell ⟨bV, e, none⟩ (.int .i64 (min (SD e) (dnT SU' SD (i, kk, e)))) = X2 at hS2 R4 HK2 HT2 ⊢
        clear hb3
        have hsX := HT2.size
        gi_wp2_with fail
        refine ⟨(by first | exact HK2 | (rw [← hs2]; exact HK2)), ⟨⟨hsX, fun q x hq hk _ => (HT2.block q (Array.getElem?_eq_some_iff.1 hk).1 (by simp; omega)).trans hk⟩, fun h => ⟨HT2.cell (by simp; omega) h.1, he.below R4.bel (Nat.le_refl _)⟩⟩, ⟨?_, by omega⟩, hS2.1, hTw.trans HT2⟩
        rw [HSN.out, HST.out]
        exact R4
  case done =>
    rintro D ys W hD hys ⟨⟨hRm, hs⟩, hq, hTw⟩ hK
    rw [hys] at hRm
    have hg := grownBy_putObj' W D (.deferred none)
    have hr : ∀ r, some D = some r → W2.heap.size ≤ r := fun r e => by cases e; exact hD
    have R5 := hRm.far hg hr HLT.out
    have T5 := turns_far hTw hg hr (by omega)
    clear hRm hTw hg hr
    gi_wp2_with fail
    refine ⟨by simp, .inl ⟨_, _, rfl, run_takeDeferred hK, ?_⟩⟩
    exact ⟨_, by simp [results, Tryz.results139]; rfl, ⟨_, rfl⟩, R5, T5⟩
end
end Go.Proofs.YthmpliljffmmcaaGreatDoor
