/-
  Helpers, merged: ClmA, MtgA, ShB, RecS, IntsLaw, BigI, Pick, OpenInts.
-/
import Derived.Test.YteibbknpcgcjjaiGreatPack2
import Derived.Test.YteibbknpcgcjjaiGreatPack10
import Derived.Test.YteibbknpcgcjjaiGreatPack5
import Derived.Test.YteibbknpcgcjjaiGreatPack4
import Derived.Test.YteibbknpcgcjjaiGreatPack8
import Derived.Laws.Rows
import Derived.Test.YteibbknpcgcjjaiGreatPack6
import Derived.Test.YteibbknpcgcjjaiGreatPack3
import Derived.Deep.QuietTactic
import Derived.Test.YteibbknpcgcjjaiGreatPack1
/-
  The sums of a climb, the program's: an array that is a local value, a closure.
-/
set_option linter.unusedVariables false
set_option linter.unusedSimpArgs false
namespace Go.Proofs.YteibbknpcgcjjaiGreat
open Go.RowKit Go.Deep Go.Joins
attribute [local go_sem ↓] Go.wp_at_zero Go.wp_at_succ

/-- Sums, one a place that there can be. -/
def arr (f : Nat → Int) : Array Value := ((List.range 24).map fun j => Value.int .i64 (f j)).toArray
theorem arr_size (f : Nat → Int) : (arr f).size = 24 := by simp [arr]
theorem arr_at (f : Nat → Int) {j : Nat} (hj : j < 24) : (arr f)[j]? = some (.int .i64 (f j)) := by
  simp only [arr, List.getElem?_toArray, List.getElem?_map, List.getElem?_range hj, Option.map_some]
theorem arr_ext {f g : Nat → Int} (h : ∀ j, j < 24 → f j = g j) : arr f = arr g := by
  simp only [arr]
  congr 1
  apply List.map_congr_left
  intro j hj
  rw [h j (List.mem_range.1 hj)]
theorem arr_set (f : Nat → Int) {i : Nat} (v : Int) (hi : i < 24) : (arr f).setIfInBounds i (.int .i64 v) = arr (fun j => if j = i then v else f j) := by
  apply Array.ext_getElem?
  intro j
  by_cases hj : j < 24
  · rw [arr_at _ hj, Array.getElem?_setIfInBounds]
    by_cases e : i = j
    · subst e
      rw [if_pos rfl, if_pos (by rw [arr_size]; exact hi)]
      simp
    · rw [if_neg e, arr_at _ hj]
      have : j ≠ i := fun h => e h.symm
      simp [this]
  · rw [Array.getElem?_eq_none (by rw [Array.size_setIfInBounds, arr_size]; omega), Array.getElem?_eq_none (by rw [arr_size]; omega)]
/-- Block b holds sums. -/
def AHas (w : World) (b : Nat) (f : Nat → Int) : Prop := w.heap[b]? = some (.cells (arr f) 131 (0, 0))
theorem AHas.cell {w : World} {b : Nat} {f : Nat → Int} (h : AHas w b f) {j : Nat} (hj : j < 24) : w.cell? ⟨b, j, none⟩ = some (.int .i64 (f j)) := by
  rw [cell_of_row w b j _ _ _ h, arr_at f hj]
theorem AHas.frozen {w : World} {b : Nat} {f : Nat → Int} (h : AHas w b f) (j : Nat) : w.frozen? ⟨b, j, none⟩ = false := frozen_of_row w b j _ _ h
theorem AHas.lt {w : World} {b : Nat} {f : Nat → Int} (h : AHas w b f) : b < w.heap.size := (Array.getElem?_eq_some_iff.1 h).1
theorem AHas.of_block {w w' : World} {b : Nat} {f : Nat → Int} (h : AHas w b f) (e : w'.heap[b]? = w.heap[b]?) : AHas w' b f := e.trans h
theorem AHas.below {w w' : World} {b B : Nat} {f : Nat → Int} (h : AHas w b f) (hb : Below B w w') (hB : b < B) : AHas w' b f := h.of_block (hb.block b hB)
theorem AHas.congr {w : World} {b : Nat} {f g : Nat → Int} (h : AHas w b f) (e : ∀ j, j < 24 → f j = g j) : AHas w b g := by
  unfold AHas; rw [← arr_ext e]; exact h
theorem AHas.set {w : World} {b : Nat} {f : Nat → Int} (h : AHas w b f) (i : Nat) (v : Int) (hi : i < 24) : AHas (w.setCell ⟨b, i, none⟩ (.int .i64 v)) b (fun j => if j = i then v else f j) := by
  unfold AHas
  rw [heap_setCell_same w b i _ _ _ h, arr_set f v hi]
theorem arr_one (f : Nat → Int) : (arr f).all (·.oneCell') = true := by
  simp [arr, Value.oneCell']
theorem Tryz.undArr : Tryz.prog.underlying 131 = some (.array 24 2) := by kernel_rfl
theorem Tryz.infoArr (f : Nat → Int) : (Tryz.prog.info? 131).map (·.size) = some (arr f).size := by rw [arr_size]; kernel_rfl
theorem AHas.row {w : World} {b : Nat} {f : Nat → Int} (h : AHas w b f) (g : Nat → Int) : AHas (w.setRow b (arr g)) b g := setRow_heap w b _ _ _ _ h
theorem setRow_below {B : Nat} {w W : World} {g : Nat} (h : Below B w W) (hg : B ≤ g) (cs : Array Value) : Below B w (W.setRow g cs) :=
  ⟨h.os, h.tape, h.output, by rw [setRow_size]; exact h.size, fun k hk => (setRow_other W g k cs (by omega)).trans (h.block k hk)⟩
theorem ahas_new (w : World) : AHas (w.alloc (.cells (arr (fun _ => 0)) 131)) w.heap.size (fun _ => 0) := heap_alloc_new w _
set_option maxHeartbeats 2000000 in
theorem climbOk_any (po : Option Addr) (k pcap : Nat) (eo : Option Addr) (m ecap : Nat) (L H : Nat → Int) (uo : Option Addr) (u ucap : Nat) (U : Nat → Int) (vo : Option Addr) (v vcap : Nat) (V : Nat → Int) (r : Int) (hk : k ≤ 1048576) (hm : m ≤ 1048576) (hu : u ≤ 1048576) (hv : v ≤ 1048576) (w : World) (he : ERow w eo m L H) (hU : IRow w uo u U) (hV : IRow w vo v V) :
    Calls Tryz.prog 88 #[.agg #[.slice po k pcap, .slice eo m ecap], .agg #[.slice uo u ucap, .slice vo v vcap], .int .i64 r] w fun e w' => BAns e (TOld k m L H u U v V ∧ RIn k r) ∧ Below w.heap.size w w' := by
  go_enter Tryz.func88, Tryz.ntmps88
  go_wp2_with fail
  refine (edgesOk_any (k : Int) eo m ecap L H hm _ ((he.alloc _).alloc _)).mono ?_
  rcases Bool.eq_false_or_eq_true (edgesB (k : Int) m L H) with h | h
  rotate_left
  · rw [h]
    rintro e w1 ⟨rfl, hb1⟩
    have HN : Hid (¬ (TOld k m L H u U v V ∧ RIn k r)) := fun x => by rw [x.1.1] at h; cases h
    go_wp2
    go_ret
    exact ⟨bans_no HN.out, unbox2 hb1 (by simp; omega)⟩
  rw [h]
  rintro e w1 ⟨rfl, hb1⟩
  have hA1 := hb1.mono (B' := w.heap.size + 2) (by simp)
  obtain ⟨⟨q0, q1⟩, ⟨q2, q3⟩, q6⟩ := box2m hA1
  clear hb1
  go_wp2_with fail
  refine (weightsOk_any uo u ucap U m hu hm _ (((hU.alloc _).alloc _).below hA1 (by simp))).mono ?_
  rintro e w2 ⟨⟨b, rfl, hb⟩, hw2⟩
  have hw2' := hw2.symm
  subst hw2'
  clear hw2
  cases b
  · have HN : Hid (¬ (TOld k m L H u U v V ∧ RIn k r)) := fun x => by have := hb.2 ⟨x.1.2.1, x.1.2.2.2.1⟩; cases this
    clear hb
    go_wp2
    go_ret
    exact ⟨bans_no HN.out, unbox2 hA1 (by omega)⟩
  have HU : Hid (u = m ∧ InF m U) := hb.1 rfl
  clear hb
  go_wp2_with fail
  refine (weightsOk_any vo v vcap V m hv hm _ (((hV.alloc _).alloc _).below hA1 (by simp))).mono ?_
  rintro e w2 ⟨⟨b, rfl, hb⟩, hw2⟩
  have hw2' := hw2.symm
  subst hw2'
  clear hw2
  cases b
  · have HN : Hid (¬ (TOld k m L H u U v V ∧ RIn k r)) := fun x => by have := hb.2 ⟨x.1.2.2.1, x.1.2.2.2.2⟩; cases this
    clear hb
    go_wp2
    go_ret
    exact ⟨bans_no HN.out, unbox2 hA1 (by omega)⟩
  have HV : Hid (v = m ∧ InF m V) := hb.1 rfl
  have HT : Hid (TOld k m L H u U v V) := ⟨h, HU.out.1, HV.out.1, HU.out.2, HV.out.2⟩
  clear hb
  go_wp2_with fail
  refine (placeOk_any r (k : Int) _).mono ?_
  rintro e w2 ⟨rfl, hw2⟩
  have hw2' := hw2.symm
  subst hw2'
  clear hw2
  go_wp2
  go_ret
  refine ⟨⟨_, rfl, ?_⟩, unbox2 hA1 (by omega)⟩
  have := HT.out
  simp [inB, RIn, this]
  omega
set_option maxRecDepth 100000 in
set_option maxHeartbeats 4000000 in
theorem climbFn_any (l q : Nat) (x : Int) (b : Nat) (f : Nat → Int) (hl : l < 24) (hh : q < 24) (hf : ∀ j, 0 ≤ f j ∧ f j ≤ 1000000000000) (hx : 0 ≤ x ∧ x ≤ 1000000000000) (w : World) (hA : AHas w b f) :
    Calls Tryz.prog 121 #[.agg #[.int .i64 (l : Int), .int .i64 (q : Int)], .int .i64 x, .pointer (some ⟨b, 0, none⟩)] w fun e w' => (∃ v, e = .returned v) ∧ AHas w' b (fun j => if j = q then min (f q) (min 1000000000000 (f l + x)) else f j) ∧ Turns w w' [b] := by
  have a0 := hA.cell hl
  have a1 := hA.cell hh
  have z0 := hA.frozen l
  have z1 := hA.frozen q
  have hbl := hA.lt
  have l1 : (l : Int) < 24 := by omega
  have l2 : (q : Int) < 24 := by omega
  have c0 := hf l
  have PK : Hid (AHas w b f) := hA
  clear hA
  go_enter Tryz.func121, Tryz.ntmps121
  go_wp2_with fail
  refine wp_region_last_lit 14 (by kernel_rfl) (by rfl) (by rfl) (by rfl) (by kernel_rfl) (by kernel_rfl) (by kernel_rfl) (by rfl) ?_
  simp only [List.take_succ_cons, List.take_zero, List.cons_append, List.nil_append]
  repeat (go_big_quiet_step (first | exact Calls.quiet_of_same (plus_any _ _ c0.1 c0.2 hx.1 hx.2 _)))
  refine wpQuiet_nil ?_
  intro w7 hw7
  obtain ⟨nq, rfl⟩ := hw7
  have al := (Below.refl w.heap.size w).alloc (Nat.le_refl _) (.cells #[.int .i64 (l : Int), .int .i64 (q : Int)] 122)
  have hA6 := PK.out.below al hbl
  have hA7 := hA6.below (below_drewN (Below.refl _ _) nq) hA6.lt
  have hB7 := Turns.of_below (below_drewN al nq) (Nat.le_refl _) [b]
  clear PK al hA6 a0 a1 z0 z1
  generalize (w.alloc (.cells #[.int .i64 (l : Int), .int .i64 (q : Int)] 122)).drewN nq = W7 at hA7 hB7 ⊢
  have s0 := hA7.cell hh
  have s1 := hA7.frozen q
  have R : Hid (∀ v, v = min (f q) (min 1000000000000 (f l + x)) → AHas (W7.setCell ⟨b, q, none⟩ (.int .i64 v)) b (fun j => if j = q then min (f q) (min 1000000000000 (f l + x)) else f j)) := fun v hv => (hA7.set q v hh).congr (fun j _ => by rw [hv])
  have B : Hid (∀ v, Turns w (W7.setCell ⟨b, q, none⟩ (.int .i64 v)) [b]) := fun v => hB7.trans (Turns.of_grown (gr_setCell _ _ _ _))
  clear hA7 hB7
  go_simp
  go_wp2 <;>
  · go_end0
    exact ⟨⟨_, rfl⟩, R.out _ (by omega), B.out _⟩
set_option maxRecDepth 100000 in
set_option maxHeartbeats 4000000 in
theorem sumsFrom_any (eo : Option Addr) (k m ecap : Nat) (L H : Nat → Int) (uo : Option Addr) (ucap : Nat) (U : Nat → Int) (r : Nat) (hr : r < k) (hk : k ≤ 24) (hE : ∀ i, i < m → 0 ≤ L i ∧ L i < H i ∧ H i < (k : Int)) (hI : InF m U) (hm : m ≤ 1048576) (w : World) (he : ERow w eo m L H) (hU : IRow w uo m U) :
    Calls Tryz.prog 89 #[.int .i64 r, .slice eo m ecap, .slice uo m ucap] w fun e w' => e = .returned (.agg (arr (cl L H U r m))) ∧ Below w.heap.size w w' := by
  have HI : Hid (InF m U ∧ ∀ i, i < m → 0 ≤ L i ∧ L i < H i ∧ H i < (k : Int)) := ⟨hI, hE⟩
  clear hI hE
  go_enter Tryz.func89, Tryz.ntmps89
  go_wp2_with fail
  have A0 : AHas ((w.alloc (.cells (arr (fun _ => 0)) 131)).alloc (.cells (arr (fun _ => 0)) 131)) (w.heap.size + 1) (fun _ => 0) := heap_alloc2_new w _ _
  have R0 : AHas ((w.alloc (.cells (arr (fun _ => 0)) 131)).alloc (.cells (arr (fun _ => 0)) 131)) w.heap.size (fun _ => 0) := heap_alloc2_old w _ _
  have hB0 : Below w.heap.size w ((w.alloc (.cells (arr (fun _ => 0)) 131)).alloc (.cells (arr (fun _ => 0)) 131)) := ((Below.refl _ w).alloc (Nat.le_refl _) _).alloc (by simp) _
  have ez : (.cells (arr fun _ => 0) 131 : Obj) = .cells #[.int .i64 0, .int .i64 0, .int .i64 0, .int .i64 0, .int .i64 0, .int .i64 0, .int .i64 0, .int .i64 0, .int .i64 0, .int .i64 0, .int .i64 0, .int .i64 0, .int .i64 0, .int .i64 0, .int .i64 0, .int .i64 0, .int .i64 0, .int .i64 0, .int .i64 0, .int .i64 0, .int .i64 0, .int .i64 0, .int .i64 0, .int .i64 0] 131 := rfl
  rw [← ez]
  have hsz : ((w.alloc (.cells (arr (fun _ => 0)) 131)).alloc (.cells (arr (fun _ => 0)) 131)).heap.size = w.heap.size + 2 := by simp
  clear ez
  generalize ((w.alloc (.cells (arr (fun _ => 0)) 131)).alloc (.cells (arr (fun _ => 0)) 131)) = W0 at A0 R0 hB0 hsz ⊢
  go_loopw [12] (fun x wr => ∃ j : Nat, j ≤ 24 ∧ x = .int .i64 j ∧ AHas wr (w.heap.size + 1) (fun q => if q < j then 1000000000000 else 0) ∧ AHas wr w.heap.size (fun _ => 0) ∧ Below w.heap.size w wr) (fun x _ => 24 - (intOf x).toNat)
  case atStart => exact ⟨0, by omega, rfl, A0.congr (fun _ _ => by simp), R0, hB0⟩
  case round =>
    obtain ⟨j, hj, rfl, A1, R1, hB1⟩ := hrel
    clear A0 R0 hB0
    by_cases hlt : j < 24
    · have hlt' : (j : Int) < 24 := by omega
      have d0 := A1.cell hlt
      have z0 := A1.frozen j
      have A2 := (A1.set j 1000000000000 hlt).congr (g := fun q => if q < j + 1 then 1000000000000 else 0) (fun q _ => by
        by_cases e : q = j
        · subst e; simp
        · simp only [e, if_false]
          by_cases e2 : q < j
          · simp [e2]; omega
          · simp [e2]; omega)
      have R2 := R1.of_block (w' := wr.setCell ⟨w.heap.size + 1, j, none⟩ (.int .i64 1000000000000)) (Below.heap_setCell _ _ _ _ (by simp))
      have hB2 := hB1.setCell (p := ⟨w.heap.size + 1, j, none⟩) (by simp) (.int .i64 1000000000000)
      clear A1 R1 hB1
      go_wp2
      go_roundw
      case rel => exact ⟨j + 1, by omega, by go_num, A2, R2, hB2⟩
      case measure => simp [intOf]; omega
    have hj24 : j = 24 := by omega
    subst hj24
    rw [show ((24 : Nat) : Int) = 24 from rfl]
    have hr24 : r < 24 := by omega
    have d0 := A1.cell hr24
    have z0 := A1.frozen r
    have hs0 : (r : Int) < 24 := by omega
    have A2 := (A1.set r 0 hr24).congr (g := cl L H U r 0) (fun q hq => by
      unfold cl
      by_cases e : q = r
      · simp [e]
      · simp [e, hq])
    have R2 := R1.of_block (w' := wr.setCell ⟨w.heap.size + 1, r, none⟩ (.int .i64 0)) (Below.heap_setCell _ _ _ _ (by simp))
    have hB2 := hB1.setCell (p := ⟨w.heap.size + 1, r, none⟩) (by simp) (.int .i64 0)
    clear A1 R1 hB1
    go_wp2_with fail
    clear d0 z0
    go_loopw [23] (fun x wq => ∃ i : Nat, i ≤ m ∧ x = .int .i64 i ∧ AHas wq (w.heap.size + 1) (cl L H U r i) ∧ AHas wq w.heap.size (fun _ => 0) ∧ Below w.heap.size w wq) (fun x _ => m - (intOf x).toNat)
    case atStart => exact ⟨0, Nat.zero_le _, rfl, A2, R2, hB2⟩
    case round =>
      clear A2 R2 hB2
      obtain ⟨i, hi, rfl, A1, R1, hB1⟩ := hrel
      by_cases hlt3 : i < m
      rotate_left
      · have hin : i = m := by omega
        subst hin
        have A3 : Hid (AHas wr (w.heap.size + 1) (cl L H U r i)) := A1
        have R3 : Hid (AHas wr w.heap.size (fun _ => 0)) := R1
        clear A1 R1
        have hB3 : Hid (Below w.heap.size w (wr.setRow w.heap.size (arr (cl L H U r i)))) := setRow_below hB1 (Nat.le_refl _) _
        go_wp2_with (first | (refine wpList_load_row rfl 131 (.tmp 7) rfl (w.heap.size + 1) rfl 131 (arr (cl L H U r i)) (0, 0) _ A3.out Tryz.undArr rfl (Tryz.infoArr _) ?_) | (refine wpList_store_row rfl 131 (.tmp 6) (.tmp 36) rfl w.heap.size (arr (cl L H U r i)) rfl rfl 131 (arr (fun _ => 0)) R3.out (Tryz.infoArr _) (by rw [arr_size, arr_size]) (arr_one _) ?_))
        refine bodyPost_ret (results_cell_row rfl _ _ w.heap.size 131 (arr (cl L H U r i)) (0, 0) _ rfl (R3.out.row _) Tryz.undArr rfl (Tryz.infoArr _)) rfl ?_
        exact ⟨rfl, hB3.out⟩
      obtain ⟨ab, aoff, hao, e0, e1⟩ := (he.below hB1 (Nat.le_refl _)) i hlt3
      subst hao
      obtain ⟨ub, uoff, huo, u00⟩ := hU i hlt3
      subst huo
      have hub := lt_of_cell u00
      have u0 := keep_cell hB1 (Nat.le_refl _) u00
      clear u00
      have ha := HI.out.2 i hlt3
      obtain ⟨tF, hF⟩ : ∃ tF : Nat, L i = (tF : Int) := ⟨(L i).toNat, by omega⟩
      obtain ⟨tT, hTT⟩ : ∃ tT : Nat, H i = (tT : Int) := ⟨(H i).toNat, by omega⟩
      have hk1 : (0 : Int) ≤ (i : Int) := by omega
      have hk2 : (i : Int) < (m : Int) := by omega
      have hul := lt_of_cell u0
      have A3 : Hid (AHas wr (w.heap.size + 1) (cl L H U r i)) := A1
      have R3 : Hid (AHas wr w.heap.size (fun _ => 0)) := R1
      have hsl := A1.lt
      clear A1 R1
      have hwl := R3.out.lt
      go_wp2_with fail
      have hal := ((Below.refl wr.heap.size wr).alloc (Nat.le_refl _) (.cells #[.int .i64 (tF : Int), .int .i64 (tT : Int)] 122)).drew
      have A4 : Hid (AHas (wr.alloc (.cells #[.int .i64 (tF : Int), .int .i64 (tT : Int)] 122)).drew (w.heap.size + 1) (cl L H U r i)) := A3.out.below hal hsl
      have R4 : Hid (AHas (wr.alloc (.cells #[.int .i64 (tF : Int), .int .i64 (tT : Int)] 122)).drew w.heap.size (fun _ => 0)) := R3.out.below hal hwl
      have hB4 : Hid (Below w.heap.size w (wr.alloc (.cells #[.int .i64 (tF : Int), .int .i64 (tT : Int)] 122)).drew) := hB1.trans (hal.mono (by omega))
      have y0 : (wr.alloc (.cells #[.int .i64 (tF : Int), .int .i64 (tT : Int)] 122)).drew.cell? ⟨wr.heap.size, 0, none⟩ = some (.int .i64 (tF : Int)) := by simp [go_sem]
      have y1 : (wr.alloc (.cells #[.int .i64 (tF : Int), .int .i64 (tT : Int)] 122)).drew.cell? ⟨wr.heap.size, 1, none⟩ = some (.int .i64 (tT : Int)) := by simp [go_sem]
      have y2 := keep_cell hal (Nat.le_refl _) u0
      have c0 : ∀ j, 0 ≤ cl L H U r i j ∧ cl L H U r i j ≤ 1000000000000 := cl_in r HI.out.1 i (by omega)
      have c1 := HI.out.1 i hlt3
      have hne : ub ≠ w.heap.size + 1 := by omega
      have hne2 : wr.heap.size ≠ w.heap.size + 1 := by omega
      have hlF : tF < 24 := by omega
      have hlT : tT < 24 := by omega
      clear hal A3 R3 hB1 e0 e1 u0
      go_region_held3 (fun w' => w'.cell? ⟨wr.heap.size, 0, none⟩ = some (.int .i64 (tF : Int)) ∧ w'.cell? ⟨wr.heap.size, 1, none⟩ = some (.int .i64 (tT : Int)) ∧ w'.cell? ⟨ub, uoff + i, none⟩ = some (.int .i64 (U i)))
        (first | (go_split_ands; refine ⟨?_, ?_, ?_⟩ <;> exact hT.cell (by simp; omega) (by assumption)) | go_keep)
        (first | (go_at_call 121; refine (climbFn_any tF tT (U i) (w.heap.size + 1) _ hlF hlT c0 c1 _ A4.out).mono ?_; rintro e w2 ⟨⟨v, rfl⟩, hA, hT⟩))
      have A5 := hA.congr (g := cl L H U r (i + 1)) (fun j hj => by
        have h1 : (H i).toNat = tT := by omega
        have h2 : (L i).toNat = tF := by omega
        show _ = (if j = (H i).toNat then _ else _)
        rw [h1, h2])
      have R5 := R4.out.of_block (hT.block _ R4.out.lt (by simp))
      have B5 := hB4.out.trans (hT.below (B := w.heap.size) (by have := R4.out.lt; omega) (by simp))
      clear hA A4 R4 hB4 hT
      go_wp2
      go_roundw
      case rel => exact ⟨i + 1, by omega, by go_num, A5, R5, B5⟩
      case measure => simp [intOf]; omega

end Go.Proofs.YteibbknpcgcjjaiGreat

/-
  The meeting of two climbs, the program's.
-/
set_option linter.unusedVariables false
set_option linter.unusedSimpArgs false
namespace Go.Proofs.YteibbknpcgcjjaiGreat
open Go.RowKit Go.Deep Go.Joins
attribute [local go_sem ↓] Go.wp_at_zero Go.wp_at_succ

/-- Sums in a new block. -/
structure PutA (w2 : World) (f : Nat → Int) (X : World) : Prop where
  has : AHas X w2.heap.size f
  bel : Below w2.heap.size w2 X
  siz : X.heap.size = w2.heap.size + 1
theorem putA_new (w2 : World) (f : Nat → Int) : PutA w2 f ((w2.alloc (.cells (arr fun _ => 0) 131)).setRow w2.heap.size (arr f)) :=
  ⟨(ahas_new w2).row f, setRow_below ((Below.refl _ _).alloc (Nat.le_refl _) _) (Nat.le_refl _) _, by simp⟩

set_option maxRecDepth 100000 in
set_option maxHeartbeats 4000000 in
theorem meet_any (po : Option Addr) (k pcap : Nat) (eo : Option Addr) (m ecap : Nat) (L H : Nat → Int) (uo : Option Addr) (u ucap : Nat) (U : Nat → Int) (vo : Option Addr) (v vcap : Nat) (V : Nat → Int) (a b : Int) (hk : k ≤ 1048576) (hm : m ≤ 1048576) (hu : u ≤ 1048576) (hv : v ≤ 1048576) (w : World) (he : ERow w eo m L H) (hU : IRow w uo u U) (hV : IRow w vo v V) :
    Calls Tryz.prog 49 #[.agg #[.slice po k pcap, .slice eo m ecap], .agg #[.slice uo u ucap, .slice vo v vcap], .int .i64 a, .int .i64 b] w fun e w' => e = .returned (.tuple #[.int .i64 (mtg k m L H u U v V a b).1, .int .i64 (mtg k m L H u U v V a b).2]) ∧ Below w.heap.size w w' := by
  have hB0 := ((Below.refl w.heap.size w).alloc (Nat.le_refl _) (.cells #[.slice po k pcap, .slice eo m ecap] 42)).alloc (by simp) (.cells #[.slice uo u ucap, .slice vo v vcap] 44)
  have q0 : ((w.alloc (.cells #[.slice po k pcap, .slice eo m ecap] 42)).alloc (.cells #[.slice uo u ucap, .slice vo v vcap] 44)).cell? ⟨w.heap.size, 0, none⟩ = some (.slice po k pcap) := by simp [go_sem]
  have q1 : ((w.alloc (.cells #[.slice po k pcap, .slice eo m ecap] 42)).alloc (.cells #[.slice uo u ucap, .slice vo v vcap] 44)).cell? ⟨w.heap.size, 1, none⟩ = some (.slice eo m ecap) := by simp [go_sem]
  have q2 : ((w.alloc (.cells #[.slice po k pcap, .slice eo m ecap] 42)).alloc (.cells #[.slice uo u ucap, .slice vo v vcap] 44)).cell? ⟨w.heap.size + 1, 0, none⟩ = some (.slice uo u ucap) := by simp [go_sem]
  have q3 : ((w.alloc (.cells #[.slice po k pcap, .slice eo m ecap] 42)).alloc (.cells #[.slice uo u ucap, .slice vo v vcap] 44)).cell? ⟨w.heap.size + 1, 1, none⟩ = some (.slice vo v vcap) := by simp [go_sem]
  by_cases h1 : TOld k m L H u U v V ∧ RIn k a
  rotate_left
  · rw [mtg_no (fun h => h1 ⟨h.1, h.2.1⟩)]
    have HN : Hid (¬ (TOld k m L H u U v V ∧ RIn k a)) := h1
    clear h1
    go_enter Tryz.func49, Tryz.ntmps49
    go_wp2_with fail
    refine (climbOk_any po k pcap eo m ecap L H uo u ucap U vo v vcap V a hk hm hu hv _ (he.below hB0 (Nat.le_refl _)) (hU.below hB0 (Nat.le_refl _)) (hV.below hB0 (Nat.le_refl _))).mono ?_
    rintro e w1 ⟨⟨b0, rfl, hb0⟩, hb1⟩
    obtain rfl : b0 = false := by
      cases b0
      · rfl
      · exact absurd (hb0.1 rfl) HN.out
    clear hb0
    go_wp2
    go_ret2
    exact ⟨rfl, below_next hB0 (Nat.le_refl _) hb1⟩
  by_cases h2 : RIn k b
  rotate_left
  · rw [mtg_no (fun h => h2 h.2.2)]
    have HN : Hid (¬ (TOld k m L H u U v V ∧ RIn k b)) := fun x => h2 x.2
    have HY : Hid (TOld k m L H u U v V ∧ RIn k a) := h1
    clear h1 h2
    go_enter Tryz.func49, Tryz.ntmps49
    go_wp2_with fail
    refine (climbOk_any po k pcap eo m ecap L H uo u ucap U vo v vcap V a hk hm hu hv _ (he.below hB0 (Nat.le_refl _)) (hU.below hB0 (Nat.le_refl _)) (hV.below hB0 (Nat.le_refl _))).mono ?_
    rintro e w1 ⟨⟨b0, rfl, hb0⟩, hb1⟩
    obtain rfl : b0 = true := hb0.2 HY.out
    clear hb0
    replace q0 := keep_cell hb1 (Nat.le_refl _) q0
    replace q1 := keep_cell hb1 (Nat.le_refl _) q1
    replace q2 := keep_cell hb1 (Nat.le_refl _) q2
    replace q3 := keep_cell hb1 (Nat.le_refl _) q3
    have hB1 := below_next hB0 (Nat.le_refl _) hb1
    clear hb1 hB0
    go_wp2_with fail
    refine (climbOk_any po k pcap eo m ecap L H uo u ucap U vo v vcap V b hk hm hu hv _ (he.below hB1 (Nat.le_refl _)) (hU.below hB1 (Nat.le_refl _)) (hV.below hB1 (Nat.le_refl _))).mono ?_
    rintro e w2 ⟨⟨b0, rfl, hb0⟩, hb2⟩
    obtain rfl : b0 = false := by
      cases b0
      · rfl
      · exact absurd (hb0.1 rfl) HN.out
    clear hb0
    go_wp2
    go_ret2
    exact ⟨rfl, below_next hB1 (Nat.le_refl _) hb2⟩
  have hT := h1.1
  obtain ⟨hk1, hk2⟩ := told_k hT
  obtain rfl : u = m := hT.2.1
  obtain rfl : v = u := hT.2.2.1
  have HT : Hid (TOld k v L H v U v V ∧ RIn k a ∧ RIn k b) := ⟨hT, h1.2, h2⟩
  rw [mtg_yes hT h1.2 h2]
  obtain ⟨ha0, ha1⟩ := h1.2
  obtain ⟨hb0, hb1⟩ := h2
  obtain ⟨an, rfl⟩ : ∃ an : Nat, a = (an : Int) := ⟨a.toNat, by omega⟩
  obtain ⟨bn, rfl⟩ : ∃ bn : Nat, b = (bn : Int) := ⟨b.toNat, by omega⟩
  rw [Int.toNat_natCast, Int.toNat_natCast]
  have HF : Hid (mt (cl L H U an v) (cl L H V bn v) 24 = mt (cl L H U an v) (cl L H V bn v) k) := by
    have := mt_far (A := cl L H U an v) (B := cl L H V bn v) (k := k) (cl_far (by omega) (fun i hi => by have := told_e hT i hi; omega) v (Nat.le_refl _)) (fun r => (cl_in bn hT.2.2.2.2 v (Nat.le_refl _) r).1) (24 - k)
    rwa [show k + (24 - k) = 24 by omega] at this
  rw [← HF.out]
  have HA : Hid (∀ j, 0 ≤ cl L H U an v j ∧ cl L H U an v j ≤ 1000000000000) := cl_in an hT.2.2.2.1 v (Nat.le_refl _)
  have HB : Hid (∀ j, 0 ≤ cl L H V bn v j ∧ cl L H V bn v j ≤ 1000000000000) := cl_in bn hT.2.2.2.2 v (Nat.le_refl _)
  clear h1 hT HF
  go_enter Tryz.func49, Tryz.ntmps49
  go_wp2_with fail
  refine (climbOk_any po k pcap eo v ecap L H uo v ucap U vo v vcap V an hk hm hu hv _ (he.below hB0 (Nat.le_refl _)) (hU.below hB0 (Nat.le_refl _)) (hV.below hB0 (Nat.le_refl _))).mono ?_
  rintro e w1 ⟨⟨b0, rfl, hb0⟩, hb1⟩
  obtain rfl : b0 = true := hb0.2 ⟨HT.out.1, HT.out.2.1⟩
  clear hb0
  replace q0 := keep_cell hb1 (Nat.le_refl _) q0
  replace q1 := keep_cell hb1 (Nat.le_refl _) q1
  replace q2 := keep_cell hb1 (Nat.le_refl _) q2
  replace q3 := keep_cell hb1 (Nat.le_refl _) q3
  have hB1 := below_next hB0 (Nat.le_refl _) hb1
  clear hb1 hB0
  go_wp2_with fail
  refine (climbOk_any po k pcap eo v ecap L H uo v ucap U vo v vcap V bn hk hm hu hv _ (he.below hB1 (Nat.le_refl _)) (hU.below hB1 (Nat.le_refl _)) (hV.below hB1 (Nat.le_refl _))).mono ?_
  rintro e w2 ⟨⟨b0, rfl, hb0⟩, hb2⟩
  obtain rfl : b0 = true := hb0.2 ⟨HT.out.1, HT.out.2.2⟩
  clear hb0
  replace q0 := keep_cell hb2 (Nat.le_refl _) q0
  replace q1 := keep_cell hb2 (Nat.le_refl _) q1
  replace q2 := keep_cell hb2 (Nat.le_refl _) q2
  replace q3 := keep_cell hb2 (Nat.le_refl _) q3
  have hB2 := below_next hB1 (Nat.le_refl _) hb2
  clear hb2 hB1
  go_wp2_with fail
  refine (sumsFrom_any eo k v ecap L H uo ucap U an (by omega) hk2 (told_e HT.out.1) HT.out.1.2.2.2.1 hm _ (he.below hB2 (Nat.le_refl _)) (hU.below hB2 (Nat.le_refl _))).mono ?_
  rintro e w3 ⟨rfl, hb3⟩
  replace q0 := keep_cell hb3 (Nat.le_refl _) q0
  replace q1 := keep_cell hb3 (Nat.le_refl _) q1
  replace q2 := keep_cell hb3 (Nat.le_refl _) q2
  replace q3 := keep_cell hb3 (Nat.le_refl _) q3
  have hB3 := below_next hB2 (Nat.le_refl _) hb3
  clear hb3 hB2
  have HQ : Hid (AHas (w3.alloc (.cells (arr fun _ => 0) 131)) w3.heap.size (fun _ => 0)) := ahas_new w3
  have PK : Hid (PutA w3 (cl L H U an v) ((w3.alloc (.cells (arr fun _ => 0) 131)).setRow w3.heap.size (arr (cl L H U an v)))) := putA_new _ _
  go_wp2_with (first | (refine wpList_store_row rfl 131 _ _ rfl w3.heap.size (arr (cl L H U an v)) rfl rfl 131 (arr (fun _ => 0)) HQ.out (Tryz.infoArr _) (by rw [arr_size, arr_size]) (arr_one _) ?_; generalize hX : World.setRow _ _ _ = X; have PK' : PutA w3 (cl L H U an v) X := (by rw [← hX]; exact PK.out); clear hX PK HQ; obtain ⟨a1, a2, a3⟩ := PK'; replace q0 := keep_cell a2 (Nat.le_refl _) q0; replace q1 := keep_cell a2 (Nat.le_refl _) q1; replace q2 := keep_cell a2 (Nat.le_refl _) q2; replace q3 := keep_cell a2 (Nat.le_refl _) q3; replace hB3 := below_next hB3 (Nat.le_refl _) a2; clear a2))
  refine (sumsFrom_any eo k v ecap L H vo vcap V bn (by omega) hk2 (told_e HT.out.1) HT.out.1.2.2.2.2 hm _ (he.below hB3 (Nat.le_refl _)) (hV.below hB3 (Nat.le_refl _))).mono ?_
  rintro e w4 ⟨rfl, hb4⟩
  have hB4 := below_next hB3 (Nat.le_refl _) hb4
  have A4 := a1.below hb4 a1.lt
  have hs4 := hb4.size
  clear hb4 hB3 q0 q1 q2 q3 a1
  have HQ : Hid (AHas (w4.alloc (.cells (arr fun _ => 0) 131)) w4.heap.size (fun _ => 0)) := ahas_new w4
  have PK : Hid (PutA w4 (cl L H V bn v) ((w4.alloc (.cells (arr fun _ => 0) 131)).setRow w4.heap.size (arr (cl L H V bn v)))) := putA_new _ _
  go_wp2_with (first | (refine wpList_store_row rfl 131 _ _ rfl w4.heap.size (arr (cl L H V bn v)) rfl rfl 131 (arr (fun _ => 0)) HQ.out (Tryz.infoArr _) (by rw [arr_size, arr_size]) (arr_one _) ?_; generalize hX : World.setRow _ _ _ = Y; have PK' : PutA w4 (cl L H V bn v) Y := (by rw [← hX]; exact PK.out); clear hX PK HQ; obtain ⟨c1, c2, c3⟩ := PK'; replace A4 := A4.below c2 A4.lt; replace hB4 := below_next hB4 (Nat.le_refl _) c2; clear c2))
  have HA4 : Hid (AHas Y w3.heap.size (cl L H U an v)) := A4
  have HC4 : Hid (AHas Y w4.heap.size (cl L H V bn v)) := c1
  clear A4 c1
  go_loopw [10, 11, 42] (fun x y z wr => ∃ i : Nat, i ≤ 24 ∧ z = .int .i64 i ∧ x = .int .i64 (mt (cl L H U an v) (cl L H V bn v) i).1 ∧ y = .int .i64 (mt (cl L H U an v) (cl L H V bn v) i).2 ∧ Below Y.heap.size Y wr) (fun _ _ z _ => 24 - (intOf z).toNat)
  case atStart => exact ⟨0, Nat.zero_le _, rfl, rfl, rfl, Below.refl _ _⟩
  case round =>
    obtain ⟨i, hi, rfl, rfl, rfl, hbel⟩ := hrel
    by_cases hlt : i < 24
    rotate_left
    · have e : i = 24 := by omega
      subst e
      go_wp2
      go_ret2
      exact ⟨rfl, below_next hB4 (Nat.le_refl _) hbel⟩
    have hlt' : (i : Int) < 24 := by omega
    have c0 := (HA4.out.below hbel HA4.out.lt).cell hlt
    have d0 := (HC4.out.below hbel HC4.out.lt).cell hlt
    have a0 := HA.out i
    have b0 := HB.out i
    obtain ⟨⟨p1, p2⟩, hp⟩ : ∃ p, mt (cl L H U an v) (cl L H V bn v) i = p := ⟨_, rfl⟩
    by_cases hs : min 1000000000000 (cl L H U an v i + cl L H V bn v i) < p2
    · have HY : Hid (mt (cl L H U an v) (cl L H V bn v) (i + 1) = ((i : Int), min 1000000000000 (cl L H U an v i + cl L H V bn v i))) := mt_yes hp hs
      rw [hp]
      clear hp
      go_wp2
      go_quiet (first | (go_at_call 90; refine Calls.quiet_of_same (plus_any _ _ a0.1 a0.2 b0.1 b0.2 _)))
      go_wp2
      go_roundw
      case rel => exact ⟨i + 1, by omega, by go_num, by rw [HY.out], by rw [HY.out], below_drewN hbel _⟩
      case measure => simp [intOf]; omega
    · have HY : Hid (mt (cl L H U an v) (cl L H V bn v) (i + 1) = (p1, p2)) := mt_no hp hs
      rw [hp]
      clear hp
      go_wp2
      go_quiet (first | (go_at_call 90; refine Calls.quiet_of_same (plus_any _ _ a0.1 a0.2 b0.1 b0.2 _)))
      go_wp2
      go_roundw
      case rel => exact ⟨i + 1, by omega, by go_num, by rw [HY.out], by rw [HY.out], below_drewN hbel _⟩
      case measure => simp [intOf]; omega

end Go.Proofs.YteibbknpcgcjjaiGreat

/-
  A customized metric is right, plainly: no triangle makes an edge shorter.
-/
set_option linter.unusedVariables false
set_option linter.unusedSimpArgs false
namespace Go.Proofs.YteibbknpcgcjjaiGreat

section
variable {k m : Nat} {L H : Nat → Int}
/-- What a triangle writes lies above its own lower edges. -/
theorem runT_same {s : (Nat → Int) × (Nat → Int)} {j : Nat} : ∀ l : List Tr, (∀ t ∈ l, t.2.2 ≠ j) → (runT s l).1 j = s.1 j ∧ (runT s l).2 j = s.2 j := by
  intro l
  induction l generalizing s with
  | nil => intro _; exact ⟨rfl, rfl⟩
  | cons t l ih =>
    intro h
    have h0 := h t (by simp)
    have h1 := ih (s := stT s t) (fun x hx => h x (by simp [hx]))
    have e : runT s (t :: l) = runT (stT s t) l := rfl
    rw [e, h1.1, h1.2]
    refine ⟨?_, ?_⟩
    · show stU s t j = s.1 j
      unfold stU
      rw [if_neg (fun q => h0 q.symm)]
    · show (if j = t.2.2 then min (s.2 t.2.2) (dnT (stU s t) s.2 t) else s.2 j) = s.2 j
      rw [if_neg (fun q => h0 q.symm)]
theorem stT_le (s : (Nat → Int) × (Nat → Int)) (t : Tr) (j : Nat) : (stT s t).1 j ≤ s.1 j ∧ (stT s t).2 j ≤ s.2 j := by
  refine ⟨?_, ?_⟩
  · show stU s t j ≤ s.1 j
    unfold stU
    split
    · rename_i e; rw [e]; omega
    · exact Int.le_refl _
  · show (if j = t.2.2 then min (s.2 t.2.2) (dnT (stU s t) s.2 t) else s.2 j) ≤ s.2 j
    split
    · rename_i e; rw [e]; omega
    · exact Int.le_refl _
theorem runT_le {s : (Nat → Int) × (Nat → Int)} {j : Nat} : ∀ l : List Tr, (runT s l).1 j ≤ s.1 j ∧ (runT s l).2 j ≤ s.2 j := by
  intro l
  induction l generalizing s with
  | nil => exact ⟨Int.le_refl _, Int.le_refl _⟩
  | cons t l ih =>
    have h1 := ih (s := stT s t)
    have h2 := stT_le s t j
    have e : runT s (t :: l) = runT (stT s t) l := rfl
    rw [e]
    omega
/-- The triangles come by their least place. -/
def Sorted (L : Nat → Int) : List Tr → Prop
  | [] => True
  | t :: l => (∀ x ∈ l, L t.1 ≤ L x.1) ∧ Sorted L l
theorem sorted_append {L : Nat → Int} : ∀ l l' : List Tr, Sorted L l → Sorted L l' → (∀ x ∈ l, ∀ y ∈ l', L x.1 ≤ L y.1) → Sorted L (l ++ l')
  | [], l', _, h2, _ => h2
  | t :: l, l', h1, h2, h3 => ⟨fun x hx => by
      rcases List.mem_append.1 hx with q | q
      · exact h1.1 x q
      · exact h3 t (by simp) x q, sorted_append l l' h1.2 h2 (fun x hx y hy => h3 x (by simp [hx]) y hy)⟩
theorem rowT_fst {n i : Nat} : ∀ f q, ∀ t ∈ rowT n L H i f q, t.1 = i
  | 0, q, t, ht => by simp [rowT] at ht
  | f + 1, q, t, ht => by
    unfold rowT at ht
    split at ht
    · rcases List.mem_cons.1 ht with e | e
      · rw [e]
      · exact rowT_fst f (q + 1) t e
    · simp at ht
theorem rowT_sorted {n i : Nat} : ∀ f q, Sorted L (rowT n L H i f q)
  | 0, q => by simp [rowT, Sorted]
  | f + 1, q => by
    unfold rowT
    split
    · exact ⟨fun x hx => by rw [rowT_fst f (q + 1) x hx]; exact Int.le_refl _, rowT_sorted f (q + 1)⟩
    · trivial
theorem allT_fst {n : Nat} : ∀ i, ∀ t ∈ allT n L H i, t.1 < i
  | 0, t, ht => by simp [allT] at ht
  | i + 1, t, ht => by
    unfold allT at ht
    rcases List.mem_append.1 ht with e | e
    · have := allT_fst i t e; omega
    · rw [rowT_fst _ _ t e]; omega
theorem allT_sorted {p : Int} (he : edB p L H m = true) : ∀ i, i ≤ m → Sorted L (allT m L H i)
  | 0, _ => by simp [allT, Sorted]
  | i + 1, hi => by
    unfold allT
    refine sorted_append _ _ (allT_sorted he i (by omega)) (rowT_sorted _ _) (fun x hx y hy => ?_)
    have h1 := allT_fst i x hx
    rw [rowT_fst _ _ y hy]
    have := ed_rise m he i (by omega) x.1 h1
    omega
/-- Behind all triangles each of them is right. -/
theorem runT_ok {s : (Nat → Int) × (Nat → Int)} (hE : ∀ i, i < m → 0 ≤ L i ∧ L i < H i ∧ H i < (k : Int)) : ∀ l : List Tr, (∀ t ∈ l, TOk m L H t) → Sorted L l → ∀ t ∈ l, okT (runT s l).1 (runT s l).2 t := by
  intro l
  induction l generalizing s with
  | nil => intro _ _ t ht; simp at ht
  | cons x l ih =>
    intro h1 h2 t ht
    have e : runT s (x :: l) = runT (stT s x) l := rfl
    rw [e]
    rcases List.mem_cons.1 ht with q | q
    · subst q
      obtain ⟨a1, a2, a3, a4, a5, a6, a7⟩ := h1 t (by simp)
      have fix : ∀ j, j < m → L j = L t.1 → (runT (stT s t) l).1 j = (stT s t).1 j ∧ (runT (stT s t) l).2 j = (stT s t).2 j := fun j hj hL => runT_same l (fun y hy e => by
        obtain ⟨b1, b2, b3, b4, b5, b6, b7⟩ := h1 y (by simp [hy])
        have c1 := h2.1 y hy
        have c2 := hE y.1 b1
        rw [← e] at hL
        omega)
      have g1 := fix t.1 a1 rfl
      have g2 := fix t.2.1 a2 a5
      have g3 := runT_le (s := stT s t) (j := t.2.2) l
      have n1 : t.1 ≠ t.2.2 := fun e => by have := hE t.1 a1; rw [← e] at a6; omega
      have n2 : t.2.1 ≠ t.2.2 := fun e => by have := hE t.1 a1; rw [← e] at a6; omega
      have u1 : (stT s t).1 t.2.1 = s.1 t.2.1 := by show stU s t t.2.1 = _; unfold stU; rw [if_neg n2]
      have u2 : (stT s t).1 t.1 = s.1 t.1 := by show stU s t t.1 = _; unfold stU; rw [if_neg n1]
      have v1 : (stT s t).2 t.1 = s.2 t.1 := by show (if t.1 = t.2.2 then min (s.2 t.2.2) (dnT (stU s t) s.2 t) else s.2 t.1) = _; rw [if_neg n1]
      have v2 : (stT s t).2 t.2.1 = s.2 t.2.1 := by show (if t.2.1 = t.2.2 then min (s.2 t.2.2) (dnT (stU s t) s.2 t) else s.2 t.2.1) = _; rw [if_neg n2]
      have u3 : (stT s t).1 t.2.2 ≤ upT s.1 s.2 t := by show stU s t t.2.2 ≤ _; unfold stU; rw [if_pos rfl]; omega
      have v3 : (stT s t).2 t.2.2 ≤ dnT (stU s t) s.2 t := by show (if t.2.2 = t.2.2 then min (s.2 t.2.2) (dnT (stU s t) s.2 t) else s.2 t.2.2) ≤ _; rw [if_pos rfl]; omega
      have w2 : stU s t t.1 = s.1 t.1 := u2
      unfold okT upT dnT
      unfold upT at u3
      unfold dnT at v3
      rw [w2] at v3
      rw [g1.1, g1.2, g2.1, g2.2, u1, u2, v1, v2]
      omega
    · exact ih (s := stT s x) (fun y hy => h1 y (by simp [hy])) h2.2 t q
end

end Go.Proofs.YteibbknpcgcjjaiGreat

/-
  Two metrics held against each other, the document's way.
-/
set_option linter.unusedVariables false
set_option linter.unusedSimpArgs false
namespace Go.Proofs.YteibbknpcgcjjaiGreat
open Go.RowKit Go.Deep Go.Joins
attribute [local go_sem ↓] Go.wp_at_zero Go.wp_at_succ

set_option maxRecDepth 100000 in
set_option maxHeartbeats 2000000 in
theorem l5Same_any (ao : Option Addr) (n acap : Nat) (f : Nat → Int) (bo : Option Addr) (m bcap : Nat) (g : Nat → Int) (co : Option Addr) (u ccap : Nat) (f' : Nat → Int) (dO : Option Addr) (v dcap : Nat) (g' : Nat → Int) (hn : n ≤ 1048576) (hm : m ≤ 1048576) (hu : u ≤ 1048576) (hv : v ≤ 1048576) (w : World) (ha : IRow w ao n f) (hb : IRow w bo m g) (hc : IRow w co u f') (hd : IRow w dO v g') :
    Calls Tryz.prog 77 #[.agg #[.slice ao n acap, .slice bo m bcap], .agg #[.slice co u ccap, .slice dO v dcap]] w fun e w' => BAns e (SameI n u f f' ∧ SameI m v g g') ∧ Below w.heap.size w w' := by
  have hB0 : Below w.heap.size w ((w.alloc (.cells #[.slice ao n acap, .slice bo m bcap] 44)).alloc (.cells #[.slice co u ccap, .slice dO v dcap] 44)) := ((Below.refl _ w).alloc (Nat.le_refl _) _).alloc (by simp) _
  by_cases h1 : (n : Int) = (u : Int)
  rotate_left
  · have HN : Hid (¬ (SameI n u f f' ∧ SameI m v g g')) := fun x => h1 (by have := x.1.1; omega)
    go_enter Tryz.func77, Tryz.ntmps77
    go_wp2
    go_ret
    exact ⟨bans_no HN.out, hB0⟩
  by_cases h2 : (m : Int) = (v : Int)
  rotate_left
  · have HN : Hid (¬ (SameI n u f f' ∧ SameI m v g g')) := fun x => h2 (by have := x.2.1; omega)
    go_enter Tryz.func77, Tryz.ntmps77
    go_wp2
    go_ret
    exact ⟨bans_no HN.out, hB0⟩
  obtain rfl : n = u := by omega
  obtain rfl : m = v := by omega
  clear h1 h2
  have q0 : ((w.alloc (.cells #[.slice ao n acap, .slice bo m bcap] 44)).alloc (.cells #[.slice co n ccap, .slice dO m dcap] 44)).cell? ⟨w.heap.size, 0, none⟩ = some (.slice ao n acap) := by simp [go_sem]
  have q1 : ((w.alloc (.cells #[.slice ao n acap, .slice bo m bcap] 44)).alloc (.cells #[.slice co n ccap, .slice dO m dcap] 44)).cell? ⟨w.heap.size, 1, none⟩ = some (.slice bo m bcap) := by simp [go_sem]
  have q2 : ((w.alloc (.cells #[.slice ao n acap, .slice bo m bcap] 44)).alloc (.cells #[.slice co n ccap, .slice dO m dcap] 44)).cell? ⟨w.heap.size + 1, 0, none⟩ = some (.slice co n ccap) := by simp [go_sem]
  have q3 : ((w.alloc (.cells #[.slice ao n acap, .slice bo m bcap] 44)).alloc (.cells #[.slice co n ccap, .slice dO m dcap] 44)).cell? ⟨w.heap.size + 1, 1, none⟩ = some (.slice dO m dcap) := by simp [go_sem]
  go_enter Tryz.func77, Tryz.ntmps77
  go_wp2
  have HR : Hid (IRow w ao n f ∧ IRow w bo m g ∧ IRow w co n f' ∧ IRow w dO m g') := ⟨ha, hb, hc, hd⟩
  clear ha hb hc hd
  generalize (w.alloc (.cells #[.slice ao n acap, .slice bo m bcap] 44)).alloc (.cells #[.slice co n ccap, .slice dO m dcap] 44) = W0 at hB0 q0 q1 q2 q3 ⊢
  go_loopw [5] (fun x wr => ∃ j : Nat, j ≤ n ∧ x = .int .i64 j ∧ (∀ i, i < j → f i = f' i) ∧ Below W0.heap.size W0 wr) (fun x _ => n - (intOf x).toNat)
  case atStart => exact ⟨0, Nat.zero_le _, rfl, fun i hi => by omega, Below.refl _ _⟩
  case round =>
    obtain ⟨j, hj, rfl, hall, hbel⟩ := hrel
    have HA : Hid (∀ i, i < j → f i = f' i) := hall
    have p0 := keep_cell hbel (Nat.le_refl _) q0
    have p1 := keep_cell hbel (Nat.le_refl _) q1
    have p2 := keep_cell hbel (Nat.le_refl _) q2
    have p3 := keep_cell hbel (Nat.le_refl _) q3
    have hB1 := below_next hB0 (Nat.le_refl _) hbel
    clear hall
    by_cases hlt : j < n
    · clear q0 q1 q2 q3
      obtain ⟨b1, o1, e1, c1⟩ := (HR.out.1.below hB1 (Nat.le_refl _)) j hlt
      subst e1
      obtain ⟨b2, o2, e2, c2⟩ := (HR.out.2.2.1.below hB1 (Nat.le_refl _)) j hlt
      subst e2
      have hk1 : (0 : Int) ≤ (j : Int) := by omega
      have hk2 : (j : Int) < (n : Int) := by omega
      by_cases he : f j = f' j
      · have HE : Hid (f j = f' j) := he
        rw [← he] at c2
        clear he
        go_wp2
        (try go_quiet (fail))
        go_wp2
        go_roundw
        case rel => exact ⟨j + 1, by omega, by go_num, fun i hi => by
          by_cases x : i = j
          · subst x; exact HE.out
          · exact HA.out i (by omega), by first | exact below_drewN hbel _ | exact hbel⟩
        case measure => simp [intOf]; omega
      · have HN : Hid (¬ (SameI n n f f' ∧ SameI m m g g')) := fun x => he (x.1.2 j hlt)
        go_wp2
        (try go_quiet (fail))
        go_wp2
        go_ret
        exact ⟨bans_no HN.out, by first | exact below_drewN hB1 _ | exact hB1⟩
    have hjn : j = n := by omega
    subst hjn
    have HF : Hid (SameI j j f f') := ⟨rfl, HA.out⟩
    clear HA p0 p1 p2 p3
    have p0 := keep_cell hbel (Nat.le_refl _) q0
    have p1 := keep_cell hbel (Nat.le_refl _) q1
    go_wp2
    clear p0 p1
    go_loopw [6] (fun x wq => ∃ j2 : Nat, j2 ≤ m ∧ x = .int .i64 j2 ∧ (∀ i, i < j2 → g i = g' i) ∧ Below W0.heap.size W0 wq) (fun x _ => m - (intOf x).toNat)
    case atStart => exact ⟨0, Nat.zero_le _, rfl, fun i hi => by omega, hbel⟩
    case round =>
      clear hbel hB1
      obtain ⟨j2, hj2, rfl, hall, hbel⟩ := hrel
      have HA : Hid (∀ i, i < j2 → g i = g' i) := hall
      have p0 := keep_cell hbel (Nat.le_refl _) q0
      have p1 := keep_cell hbel (Nat.le_refl _) q1
      have p2 := keep_cell hbel (Nat.le_refl _) q2
      have p3 := keep_cell hbel (Nat.le_refl _) q3
      have hB1 := below_next hB0 (Nat.le_refl _) hbel
      clear hall q0 q1 q2 q3
      by_cases hlt2 : j2 < m
      · obtain ⟨b1, o1, e1, c1⟩ := (HR.out.2.1.below hB1 (Nat.le_refl _)) j2 hlt2
        subst e1
        obtain ⟨b2, o2, e2, c2⟩ := (HR.out.2.2.2.below hB1 (Nat.le_refl _)) j2 hlt2
        subst e2
        have hk1 : (0 : Int) ≤ (j2 : Int) := by omega
        have hk2 : (j2 : Int) < (m : Int) := by omega
        by_cases he : g j2 = g' j2
        · have HE : Hid (g j2 = g' j2) := he
          rw [← he] at c2
          clear he
          go_wp2
          (try go_quiet (fail))
          go_wp2
          go_roundw
          case rel => exact ⟨j2 + 1, by omega, by go_num, fun i hi => by
            by_cases x : i = j2
            · subst x; exact HE.out
            · exact HA.out i (by omega), by first | exact below_drewN hbel _ | exact hbel⟩
          case measure => simp [intOf]; omega
        · have HN : Hid (¬ (SameI j j f f' ∧ SameI m m g g')) := fun x => he (x.2.2 j2 hlt2)
          go_wp2
          (try go_quiet (fail))
          go_wp2
          go_ret
          exact ⟨bans_no HN.out, by first | exact below_drewN hB1 _ | exact hB1⟩
      have hjm : j2 = m := by omega
      subst hjm
      have HY : Hid (SameI j j f f' ∧ SameI j2 j2 g g') := ⟨HF.out, rfl, HA.out⟩
      go_wp2
      go_ret
      exact ⟨bans_yes HY.out, hB1⟩

end Go.Proofs.YteibbknpcgcjjaiGreat

/-
  What the exact laws' own helpers do with lists of numbers: two are held against each other, one is marked, one is looked at for its marks.
-/
set_option linter.unusedVariables false
set_option linter.unusedSimpArgs false
namespace Go.Proofs.YteibbknpcgcjjaiGreat
open Go.RowKit
attribute [local go_sem ↓] Go.wp_at_zero Go.wp_at_succ

set_option maxHeartbeats 800000 in
theorem eqInt64S_same (ao ao' : Option Addr) (n cap cap' : Nat) (f : Nat → Int) (hn : n ≤ 1048576) (w : World) (hr : IRow w ao n f) (hr' : IRow w ao' n f) :
    Calls Tryz.prog 13 #[.slice ao n cap, .slice ao' n cap'] w fun e w' => e = .returned (.bool true) ∧ Below w.heap.size w w' := by
  go_enter Tryz.func13, Tryz.ntmps13
  go_wp2
  go_loopw [5] (fun i wr => ∃ k : Nat, k ≤ n ∧ i = .int .i64 k ∧ Below w.heap.size w wr) (fun i _ => n - (intOf i).toNat)
  case atStart => exact ⟨0, Nat.zero_le _, rfl, Below.refl _ _⟩
  case round =>
    obtain ⟨k, hk, rfl, hbel⟩ := hrel
    by_cases hlt : k < n
    rotate_left
    · have hkn : k = n := by omega
      subst hkn
      go_wp2
      go_ret
      exact ⟨rfl, hbel⟩
    obtain ⟨b, o, hao, c0⟩ := (hr.below hbel (Nat.le_refl _)) k hlt
    obtain ⟨b', o', hao', d0⟩ := (hr'.below hbel (Nat.le_refl _)) k hlt
    subst hao
    subst hao'
    have hk1 : (0 : Int) ≤ (k : Int) := by omega
    have hk2 : (k : Int) < (n : Int) := by omega
    go_wp2
    go_quiet (fail)
    go_wp2
    go_roundw
    case rel => exact ⟨k + 1, by omega, by go_num, below_drewN hbel _⟩
    case measure => simp [intOf]; omega

/-- The marks: number j holds k + j. -/
def mki (k : Int) (j : Nat) : Int := k + j

set_option maxHeartbeats 1000000 in
theorem markInt64S_any (b n cap : Nat) (f : Nat → Int) (k : Int) (hk0 : 0 ≤ k) (hk1 : k ≤ 4000000) (hn : n ≤ 1048576) (w : World) (h : 0 < n → IHas w b n f) (ao : Option Addr) (hao : 0 < n → ao = some ⟨b, 0, none⟩) :
    Calls Tryz.prog 20 #[.slice ao n cap, .int .i64 k] w fun e w' => e = .returned (.int .i64 (k + n)) ∧ (0 < n → IHas w' b n (mki k)) ∧ w.grownBy w' (some b) := by
  go_enter Tryz.func20, Tryz.ntmps20
  go_wp2
  go_loopw [1, 5] (fun q i wr => ∃ m : Nat, m ≤ n ∧ i = .int .i64 m ∧ q = .int .i64 (k + m) ∧ (0 < n → IHas wr b n (fun j => if j < m then mki k j else f j)) ∧ w.grownBy wr (some b)) (fun _ i _ => n - (intOf i).toNat)
  case atStart => exact ⟨0, Nat.zero_le _, rfl, by simp, fun hp => (h hp).congr (fun j _ => by simp), World.grownBy.refl _ _⟩
  case round =>
    obtain ⟨m, hm, rfl, rfl, hh, hg⟩ := hrel
    by_cases hlt : m < n
    rotate_left
    · have e : m = n := by omega
      subst e
      go_wp2
      go_ret
      exact ⟨rfl, fun hp => (hh hp).congr (fun j hj => by rw [if_pos (by omega)]), hg⟩
    obtain rfl := hao (by omega)
    have HH := hh (by omega)
    have d0 := HH.cell (j := m) (by omega)
    have z0 := HH.frozen m
    have R := HH.set m (k + m)
    have S := hg.trans (gr_setCell _ b m (.int .i64 (k + m)))
    clear HH hh
    go_wp2
    go_roundw
    case rel =>
      refine ⟨m + 1, by omega, by go_num, by go_num, fun _ => R.congr (fun j hj => ?_), S⟩
      by_cases e0 : j = m
      · subst e0; simp [mki]
      simp only [if_neg e0]
      by_cases hl : j < m
      · rw [if_pos hl, if_pos (by omega)]
      · rw [if_neg hl, if_neg (by omega)]
    case measure => simp [intOf]; omega

set_option maxHeartbeats 1000000 in
theorem heldInt64S_any (b n cap : Nat) (k : Int) (hk0 : 0 ≤ k) (hk1 : k ≤ 4000000) (hn : n ≤ 1048576) (w : World) (h : 0 < n → IHas w b n (mki k)) (ao : Option Addr) (hao : 0 < n → ao = some ⟨b, 0, none⟩) :
    Calls Tryz.prog 21 #[.slice ao n cap, .int .i64 k] w fun e w' => e = .returned (.int .i64 (k + n)) ∧ w' = w := by
  go_enter Tryz.func21, Tryz.ntmps21
  go_wp2
  go_loop [1, 5] (fun q i => ∃ m : Nat, m ≤ n ∧ i = .int .i64 m ∧ q = .int .i64 (k + m)) (fun _ i => n - (intOf i).toNat)
  case atStart => exact ⟨0, Nat.zero_le _, rfl, by simp⟩
  case round =>
    obtain ⟨m, hm, rfl, rfl⟩ := hrel
    by_cases hlt : m < n
    rotate_left
    · have e : m = n := by omega
      subst e
      go_wp2
      go_ret
      exact ⟨rfl, rfl⟩
    obtain rfl := hao (by omega)
    have HH := h (by omega)
    have d0 : w.cell? ⟨b, m, none⟩ = some (.int .i64 (k + m)) := by
      rw [HH.cell (by omega)]; simp [mki]
    clear HH
    go_wp2
    go_round
    case rel => exact ⟨m + 1, by omega, by go_num, by go_num⟩
    case measure => simp [intOf]; omega

end Go.Proofs.YteibbknpcgcjjaiGreat

/-
  The exact laws' helpers for lists of numbers of more than a million.
-/
set_option linter.unusedVariables false
set_option linter.unusedSimpArgs false
namespace Go.Proofs.YteibbknpcgcjjaiGreat
open Go.RowKit
attribute [local go_sem ↓] Go.wp_at_zero Go.wp_at_succ

set_option maxHeartbeats 800000 in
theorem eqInt64S_big (ao ao' : Option Addr) (n cap cap' : Nat) (f : Nat → Int) (hn : n ≤ 1000000000) (w : World) (hr : IRow w ao n f) (hr' : IRow w ao' n f) :
    Calls Tryz.prog 13 #[.slice ao n cap, .slice ao' n cap'] w fun e w' => e = .returned (.bool true) ∧ Below w.heap.size w w' := by
  go_enter Tryz.func13, Tryz.ntmps13
  go_wp2
  go_loopw [5] (fun i wr => ∃ k : Nat, k ≤ n ∧ i = .int .i64 k ∧ Below w.heap.size w wr) (fun i _ => n - (intOf i).toNat)
  case atStart => exact ⟨0, Nat.zero_le _, rfl, Below.refl _ _⟩
  case round =>
    obtain ⟨k, hk, rfl, hbel⟩ := hrel
    by_cases hlt : k < n
    rotate_left
    · have hkn : k = n := by omega
      subst hkn
      go_wp2
      go_ret
      exact ⟨rfl, hbel⟩
    obtain ⟨b, o, hao, c0⟩ := (hr.below hbel (Nat.le_refl _)) k hlt
    obtain ⟨b', o', hao', d0⟩ := (hr'.below hbel (Nat.le_refl _)) k hlt
    subst hao
    subst hao'
    have hk1 : (0 : Int) ≤ (k : Int) := by omega
    have hk2 : (k : Int) < (n : Int) := by omega
    go_wp2
    go_quiet (fail)
    go_wp2
    go_roundw
    case rel => exact ⟨k + 1, by omega, by go_num, below_drewN hbel _⟩
    case measure => simp [intOf]; omega

set_option maxHeartbeats 1000000 in
theorem markInt64S_big (b n cap : Nat) (f : Nat → Int) (k : Int) (hk0 : 0 ≤ k) (hk1 : k ≤ 4000000) (hn : n ≤ 1000000000) (w : World) (h : 0 < n → IHas w b n f) (ao : Option Addr) (hao : 0 < n → ao = some ⟨b, 0, none⟩) :
    Calls Tryz.prog 20 #[.slice ao n cap, .int .i64 k] w fun e w' => e = .returned (.int .i64 (k + n)) ∧ (0 < n → IHas w' b n (mki k)) ∧ w.grownBy w' (some b) := by
  go_enter Tryz.func20, Tryz.ntmps20
  go_wp2
  go_loopw [1, 5] (fun q i wr => ∃ m : Nat, m ≤ n ∧ i = .int .i64 m ∧ q = .int .i64 (k + m) ∧ (0 < n → IHas wr b n (fun j => if j < m then mki k j else f j)) ∧ w.grownBy wr (some b)) (fun _ i _ => n - (intOf i).toNat)
  case atStart => exact ⟨0, Nat.zero_le _, rfl, by simp, fun hp => (h hp).congr (fun j _ => by simp), World.grownBy.refl _ _⟩
  case round =>
    obtain ⟨m, hm, rfl, rfl, hh, hg⟩ := hrel
    by_cases hlt : m < n
    rotate_left
    · have e : m = n := by omega
      subst e
      go_wp2
      go_ret
      exact ⟨rfl, fun hp => (hh hp).congr (fun j hj => by rw [if_pos (by omega)]), hg⟩
    obtain rfl := hao (by omega)
    have HH := hh (by omega)
    have d0 := HH.cell (j := m) (by omega)
    have z0 := HH.frozen m
    have R := HH.set m (k + m)
    have S := hg.trans (gr_setCell _ b m (.int .i64 (k + m)))
    clear HH hh
    go_wp2
    go_roundw
    case rel =>
      refine ⟨m + 1, by omega, by go_num, by go_num, fun _ => R.congr (fun j hj => ?_), S⟩
      by_cases e0 : j = m
      · subst e0; simp [mki]
      simp only [if_neg e0]
      by_cases hl : j < m
      · rw [if_pos hl, if_pos (by omega)]
      · rw [if_neg hl, if_neg (by omega)]
    case measure => simp [intOf]; omega

set_option maxHeartbeats 1000000 in
theorem heldInt64S_big (b n cap : Nat) (k : Int) (hk0 : 0 ≤ k) (hk1 : k ≤ 4000000) (hn : n ≤ 1000000000) (w : World) (h : 0 < n → IHas w b n (mki k)) (ao : Option Addr) (hao : 0 < n → ao = some ⟨b, 0, none⟩) :
    Calls Tryz.prog 21 #[.slice ao n cap, .int .i64 k] w fun e w' => e = .returned (.int .i64 (k + n)) ∧ w' = w := by
  go_enter Tryz.func21, Tryz.ntmps21
  go_wp2
  go_loop [1, 5] (fun q i => ∃ m : Nat, m ≤ n ∧ i = .int .i64 m ∧ q = .int .i64 (k + m)) (fun _ i => n - (intOf i).toNat)
  case atStart => exact ⟨0, Nat.zero_le _, rfl, by simp⟩
  case round =>
    obtain ⟨m, hm, rfl, rfl⟩ := hrel
    by_cases hlt : m < n
    rotate_left
    · have e : m = n := by omega
      subst e
      go_wp2
      go_ret
      exact ⟨rfl, rfl⟩
    obtain rfl := hao (by omega)
    have HH := h (by omega)
    have d0 : w.cell? ⟨b, m, none⟩ = some (.int .i64 (k + m)) := by
      rw [HH.cell (by omega)]; simp [mki]
    clear HH
    go_wp2
    go_round
    case rel => exact ⟨m + 1, by omega, by go_num, by go_num⟩
    case measure => simp [intOf]; omega

end Go.Proofs.YteibbknpcgcjjaiGreat

/-
  The block of a list that is answered, whether it is empty or not.
-/
set_option linter.unusedVariables false
set_option linter.unusedSimpArgs false
namespace Go.Proofs.YteibbknpcgcjjaiGreat
open Go.RowKit

theorem pick1 {w W : World} {ao : Option Addr} {m : Nat} {R : Nat → Prop} (h : 0 < m → ∃ g, ao = some ⟨g, 0, none⟩ ∧ w.heap.size ≤ g ∧ R g) (l : ∀ g, R g → g < W.heap.size) :
    ∃ b, (0 < m → ao = some ⟨b, 0, none⟩) ∧ (0 < m → R b) ∧ w.heap.size ≤ b ∧ (0 < m → b < W.heap.size) := by
  by_cases hm : 0 < m
  · obtain ⟨g, e, hg, hR⟩ := h hm
    exact ⟨g, fun _ => e, fun _ => hR, hg, fun _ => l g hR⟩
  · exact ⟨w.heap.size, fun h => absurd h hm, fun h => absurd h hm, Nat.le_refl _, fun h => absurd h hm⟩

/-- The two blocks of a metric that is answered, whether it is empty or not. -/
theorem pickM {w W : World} {ao eo : Option Addr} {m : Nat} {R S : Nat → Prop} (h : 0 < m → ∃ b c, ao = some ⟨b, 0, none⟩ ∧ eo = some ⟨c, 0, none⟩ ∧ w.heap.size ≤ b ∧ w.heap.size ≤ c ∧ b ≠ c ∧ R b ∧ S c) (l1 : ∀ g, R g → g < W.heap.size) (l2 : ∀ g, S g → g < W.heap.size) (hs : w.heap.size + 2 ≤ W.heap.size) :
    ∃ b c, (0 < m → ao = some ⟨b, 0, none⟩) ∧ (0 < m → R b) ∧ (0 < m → eo = some ⟨c, 0, none⟩) ∧ (0 < m → S c) ∧ (w.heap.size ≤ b ∧ b < W.heap.size) ∧ (w.heap.size ≤ c ∧ c < W.heap.size) ∧ b ≠ c := by
  by_cases hm : 0 < m
  · obtain ⟨b, c, e1, e2, g1, g2, hne, hR, hS⟩ := h hm
    exact ⟨b, c, fun _ => e1, fun _ => hR, fun _ => e2, fun _ => hS, ⟨g1, l1 b hR⟩, ⟨g2, l2 c hS⟩, hne⟩
  · exact ⟨w.heap.size, w.heap.size + 1, fun h => absurd h hm, fun h => absurd h hm, fun h => absurd h hm, fun h => absurd h hm, ⟨by omega, by omega⟩, ⟨by omega, by omega⟩, by omega⟩

end Go.Proofs.YteibbknpcgcjjaiGreat

/-
  What the reading of an argument says of its memory: a list of numbers that came in lies behind its address.
-/
set_option linter.unusedVariables false
set_option linter.unusedSimpArgs false
namespace Go.Proofs.YteibbknpcgcjjaiGreat
open Go.ChangeShapes Go.WideShapes Go.ChangeAt Go.RowKit Go.Deep Go.Joins
attribute [local go_sem ↓] Go.wp_at_zero Go.wp_at_succ

set_option maxHeartbeats 400000 in
theorem toInt64S_any (ao : Option Addr) (n cap : Nat) (f : Nat → Int) (hn : n ≤ 1048576) (w : World) (hr : IRow w ao n f) :
    Calls Tryz.prog 44 #[.slice ao n cap] w fun e w' => e = .returned (.slice (some ⟨w.heap.size, 0, none⟩) n n) ∧ IHas w' w.heap.size n f ∧ Below w.heap.size w w' := by
  have hmk := make_ints n hn
  go_enter Tryz.func44, Tryz.ntmps44
  go_wp2
  clear hmk
  go_loopw [4] (fun i wr => ∃ k : Nat, k ≤ n ∧ i = .int .i64 k ∧ IHas wr w.heap.size n (fun j => if j < k then f j else 0) ∧ Below w.heap.size w wr) (fun i _ => n - (intOf i).toNat)
  case atStart => exact ⟨0, Nat.zero_le _, rfl, made_ints w n, (Below.refl _ _).alloc (Nat.le_refl _) _⟩
  case round =>
    obtain ⟨k, hk, rfl, hown, hbel⟩ := hrel
    by_cases hlt : k < n
    · obtain ⟨b, o, hao, c0⟩ := (hr.below hbel (Nat.le_refl _)) k hlt
      subst hao
      have d0 := hown.cell hlt
      have z0 := hown.frozen k
      have R := hown.set k (f k)
      have S := hbel.setCell (p := ⟨w.heap.size, k, none⟩) (Nat.le_refl _) (.int .i64 (f k))
      clear hown
      go_wp2
      go_roundw
      case rel =>
        refine ⟨k + 1, by omega, by go_num, R.congr (fun j hj => ?_), S⟩
        by_cases e : j = k
        · subst e; simp
        · simp only [if_neg e]
          by_cases hl : j < k
          · rw [if_pos hl, if_pos (by omega)]
          · rw [if_neg hl, if_neg (by omega)]
      case measure => simp [intOf]; omega
    · have hkn : k = n := by omega
      subst hkn
      go_wp2
      go_ret
      exact ⟨rfl, hown.congr (fun j hj => by simp [hj]), hbel⟩

set_option maxRecDepth 100000 in
theorem open_nums {H : Type} {enc : TypeId × Value → H} {w : World} {base : Nat} {spare : Nat → Bool} {held : Bool} {fuel : Nat} {cs : List Value} {x : DataW H × List MemPlace}
    (h : DataW.trod enc Tryz.prog w base spare held fuel 25 cs = some x) :
    ∃ (ao : Option Addr) (n cap : Nat) (P : Nat → Int), cs = [.slice ao n cap] ∧ n ≤ maxLen ∧ IRow w ao n P ∧ ∀ k, k < n → (Lit.int .i64 (P k)).wf = true := by
  rcases open_slice Tryz.underlying25 h with ⟨rfl, _⟩ | ⟨a, len, cap, m, n, D, Pl, rfl, hb, hl, hm, hmm, _, hx⟩
  · exact ⟨none, 0, 0, fun _ => 0, rfl, Nat.zero_le _, fun k hk => by omega, fun k hk => by omega⟩
  have hlm : len ≤ m := by rw [hmm]; split <;> omega
  have each : ∀ i, i < len → ∃ q : Int, w.cell? (a.add i) = some (.int .i64 q) ∧ (Lit.int .i64 q).wf = true := by
    intro i hi
    obtain ⟨cs', h1, h2⟩ := hx i (by omega)
    rw [Tryz.cellsInt] at h1
    obtain ⟨_, hlen, hcell⟩ := World.cells?_some h1
    match cs', hlen with
    | [v0], _ =>
      obtain ⟨q0, r0, _, f0⟩ := DataW.trod_int Tryz.underlying2 h2
      have e0 := hcell 0 (by omega)
      rw [add_add] at e0
      simp at r0
      subst r0
      exact ⟨q0, by simpa using e0, f0⟩
  obtain ⟨f, hf⟩ := choose_lt each
  refine ⟨some a, len, cap, f, rfl, by omega, fun k hk => ?_, fun k hk => (hf k hk).2⟩
  obtain ⟨b, o, spot⟩ := a
  have hspot : spot = none := by
    have := World.cell?_spot (hf 0 (by omega)).1
    simpa [Addr.add] using this
  subst hspot
  have := (hf k hk).1
  rw [Addr.add_mid] at this
  exact ⟨b, o, rfl, this⟩

end Go.Proofs.YteibbknpcgcjjaiGreat
