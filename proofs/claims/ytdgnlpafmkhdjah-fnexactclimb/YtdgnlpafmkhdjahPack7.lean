/-
  Helpers, merged: ClmI, Pick, AnsLaw, MtgS, MtgI.
-/
import Derived.Test.YtdgnlpafmkhdjahPack6
import Derived.Test.YtdgnlpafmkhdjahPack2
import Derived.Test.YtdgnlpafmkhdjahPack3
import Derived.Test.YtdgnlpafmkhdjahPack4
import Derived.Test.YtdgnlpafmkhdjahPack5
import Derived.Laws.Rows
/-
  Climb, the program's, at every hierarchy and every metric.
-/
set_option linter.unusedVariables false
set_option linter.unusedSimpArgs false
namespace Go.Proofs.Ytdgnlpafmkhdjah
open Go.RowKit Go.Deep Go.Joins
attribute [local go_sem ↓] Go.wp_at_zero Go.wp_at_succ

/-- Sums, one a place that there can be. -/
def arr (f : Nat → Int) : Array Value := ((List.range 24).map fun j => Value.int .i64 (f j)).toArray
theorem arr_size (f : Nat → Int) : (arr f).size = 24 := by simp [arr]
theorem arr_at (f : Nat → Int) {j : Nat} (hj : j < 24) : (arr f)[j]? = some (.int .i64 (f j)) := by
  simp only [arr, List.getElem?_toArray, List.getElem?_map, List.getElem?_range hj, Option.map_some]
theorem arr_ext {f g : Nat → Int} (h : ∀ j, j < 24 → f j = g j) : arr f = arr g := by
  simp only [arr]
  congr 1
  apply List.map_congr_left
  intro j hj
  rw [h j (List.mem_range.1 hj)]
theorem arr_set (f : Nat → Int) {i : Nat} (v : Int) (hi : i < 24) : (arr f).setIfInBounds i (.int .i64 v) = arr (fun j => if j = i then v else f j) := by
  apply Array.ext_getElem?
  intro j
  by_cases hj : j < 24
  · rw [arr_at _ hj, Array.getElem?_setIfInBounds]
    by_cases e : i = j
    · subst e
      rw [if_pos rfl, if_pos (by rw [arr_size]; exact hi)]
      simp
    · rw [if_neg e, arr_at _ hj]
      have : j ≠ i := fun h => e h.symm
      simp [this]
  · rw [Array.getElem?_eq_none (by rw [Array.size_setIfInBounds, arr_size]; omega), Array.getElem?_eq_none (by rw [arr_size]; omega)]
/-- Block b holds sums. -/
def AHas (w : World) (b : Nat) (f : Nat → Int) : Prop := w.heap[b]? = some (.cells (arr f) 103 (0, 0))
theorem AHas.cell {w : World} {b : Nat} {f : Nat → Int} (h : AHas w b f) {j : Nat} (hj : j < 24) : w.cell? ⟨b, j, none⟩ = some (.int .i64 (f j)) := by
  rw [cell_of_row w b j _ _ _ h, arr_at f hj]
theorem AHas.frozen {w : World} {b : Nat} {f : Nat → Int} (h : AHas w b f) (j : Nat) : w.frozen? ⟨b, j, none⟩ = false := frozen_of_row w b j _ _ h
theorem AHas.lt {w : World} {b : Nat} {f : Nat → Int} (h : AHas w b f) : b < w.heap.size := (Array.getElem?_eq_some_iff.1 h).1
theorem AHas.of_block {w w' : World} {b : Nat} {f : Nat → Int} (h : AHas w b f) (e : w'.heap[b]? = w.heap[b]?) : AHas w' b f := e.trans h
theorem AHas.below {w w' : World} {b B : Nat} {f : Nat → Int} (h : AHas w b f) (hb : Below B w w') (hB : b < B) : AHas w' b f := h.of_block (hb.block b hB)
theorem AHas.congr {w : World} {b : Nat} {f g : Nat → Int} (h : AHas w b f) (e : ∀ j, j < 24 → f j = g j) : AHas w b g := by
  unfold AHas; rw [← arr_ext e]; exact h
theorem AHas.set {w : World} {b : Nat} {f : Nat → Int} (h : AHas w b f) (i : Nat) (v : Int) (hi : i < 24) : AHas (w.setCell ⟨b, i, none⟩ (.int .i64 v)) b (fun j => if j = i then v else f j) := by
  unfold AHas
  rw [heap_setCell_same w b i _ _ _ h, arr_set f v hi]
theorem arr_one (f : Nat → Int) : (arr f).all (·.oneCell') = true := by
  simp [arr, Value.oneCell']
theorem Try.undArr : Try.prog.underlying 103 = some (.array 24 2) := by kernel_rfl
theorem Try.infoArr (f : Nat → Int) : (Try.prog.info? 103).map (·.size) = some (arr f).size := by rw [arr_size]; kernel_rfl
theorem AHas.row {w : World} {b : Nat} {f : Nat → Int} (h : AHas w b f) (g : Nat → Int) : AHas (w.setRow b (arr g)) b g := setRow_heap w b _ _ _ _ h
theorem setRow_below {B : Nat} {w W : World} {g : Nat} (h : Below B w W) (hg : B ≤ g) (cs : Array Value) : Below B w (W.setRow g cs) :=
  ⟨h.os, h.tape, h.output, by rw [setRow_size]; exact h.size, fun k hk => (setRow_other W g k cs (by omega)).trans (h.block k hk)⟩
theorem ahas_new (w : World) : AHas (w.alloc (.cells (arr (fun _ => 0)) 103)) w.heap.size (fun _ => 0) := heap_alloc_new w _

set_option maxHeartbeats 2000000 in
theorem climbOk_any (po : Option Addr) (k pcap : Nat) (eo : Option Addr) (m ecap : Nat) (L H : Nat → Int) (uo : Option Addr) (u ucap : Nat) (U : Nat → Int) (vo : Option Addr) (v vcap : Nat) (V : Nat → Int) (r : Int) (hk : k ≤ 1048576) (hm : m ≤ 1048576) (hu : u ≤ 1048576) (hv : v ≤ 1048576) (w : World) (he : ERow w eo m L H) (hU : IRow w uo u U) (hV : IRow w vo v V) :
    Calls Try.prog 72 #[.agg #[.slice po k pcap, .slice eo m ecap], .agg #[.slice uo u ucap, .slice vo v vcap], .int .i64 r] w fun e w' => BAns e (TOld k m L H u U v V ∧ RIn k r) ∧ Below w.heap.size w w' := by
  go_enter Try.func72, Try.ntmps72
  go_wp2_with fail
  refine (edgesOk_any (k : Int) eo m ecap L H hm _ ((he.alloc _).alloc _)).mono ?_
  rcases Bool.eq_false_or_eq_true (edgesB (k : Int) m L H) with h | h
  rotate_left
  · rw [h]
    rintro e w1 ⟨rfl, hb1⟩
    have HN : Hid (¬ (TOld k m L H u U v V ∧ RIn k r)) := fun x => by rw [x.1.1] at h; cases h
    go_wp2
    go_ret
    exact ⟨bans_no HN.out, unbox2 hb1 (by simp; omega)⟩
  rw [h]
  rintro e w1 ⟨rfl, hb1⟩
  have hA1 := hb1.mono (B' := w.heap.size + 2) (by simp)
  obtain ⟨⟨q0, q1⟩, ⟨q2, q3⟩, q6⟩ := box2m hA1
  clear hb1
  go_wp2_with fail
  refine (weightsOk_any uo u ucap U m hu hm _ (((hU.alloc _).alloc _).below hA1 (by simp))).mono ?_
  rintro e w2 ⟨⟨b, rfl, hb⟩, hw2⟩
  have hw2' := hw2.symm
  subst hw2'
  clear hw2
  cases b
  · have HN : Hid (¬ (TOld k m L H u U v V ∧ RIn k r)) := fun x => by have := hb.2 ⟨x.1.2.1, x.1.2.2.2.1⟩; cases this
    clear hb
    go_wp2
    go_ret
    exact ⟨bans_no HN.out, unbox2 hA1 (by omega)⟩
  have HU : Hid (u = m ∧ InF m U) := hb.1 rfl
  clear hb
  go_wp2_with fail
  refine (weightsOk_any vo v vcap V m hv hm _ (((hV.alloc _).alloc _).below hA1 (by simp))).mono ?_
  rintro e w2 ⟨⟨b, rfl, hb⟩, hw2⟩
  have hw2' := hw2.symm
  subst hw2'
  clear hw2
  cases b
  · have HN : Hid (¬ (TOld k m L H u U v V ∧ RIn k r)) := fun x => by have := hb.2 ⟨x.1.2.2.1, x.1.2.2.2.2⟩; cases this
    clear hb
    go_wp2
    go_ret
    exact ⟨bans_no HN.out, unbox2 hA1 (by omega)⟩
  have HV : Hid (v = m ∧ InF m V) := hb.1 rfl
  have HT : Hid (TOld k m L H u U v V) := ⟨h, HU.out.1, HV.out.1, HU.out.2, HV.out.2⟩
  clear hb
  go_wp2_with fail
  refine (placeOk_any r (k : Int) _).mono ?_
  rintro e w2 ⟨rfl, hw2⟩
  have hw2' := hw2.symm
  subst hw2'
  clear hw2
  go_wp2
  go_ret
  refine ⟨⟨_, rfl, ?_⟩, unbox2 hA1 (by omega)⟩
  have := HT.out
  simp [inB, RIn, this]
  omega

set_option maxRecDepth 100000 in
set_option maxHeartbeats 4000000 in
theorem climbFn_any (l q : Nat) (x : Int) (b : Nat) (f : Nat → Int) (hl : l < 24) (hh : q < 24) (hf : ∀ j, 0 ≤ f j ∧ f j ≤ 1000000000000) (hx : 0 ≤ x ∧ x ≤ 1000000000000) (w : World) (hA : AHas w b f) :
    Calls Try.prog 103 #[.agg #[.int .i64 (l : Int), .int .i64 (q : Int)], .int .i64 x, .pointer (some ⟨b, 0, none⟩)] w fun e w' => (∃ v, e = .returned v) ∧ AHas w' b (fun j => if j = q then min (f q) (min 1000000000000 (f l + x)) else f j) ∧ Turns w w' [b] := by
  have a0 := hA.cell hl
  have a1 := hA.cell hh
  have z0 := hA.frozen l
  have z1 := hA.frozen q
  have hbl := hA.lt
  have l1 : (l : Int) < 24 := by omega
  have l2 : (q : Int) < 24 := by omega
  have c0 := hf l
  have PK : Hid (AHas w b f) := hA
  clear hA
  go_enter Try.func103, Try.ntmps103
  go_wp2_with fail
  refine wp_region_last_lit 14 (by kernel_rfl) (by rfl) (by rfl) (by rfl) (by kernel_rfl) (by kernel_rfl) (by kernel_rfl) (by rfl) ?_
  simp only [List.take_succ_cons, List.take_zero, List.cons_append, List.nil_append]
  repeat (go_big_quiet_step (first | exact Calls.quiet_of_same (plus_any _ _ c0.1 c0.2 hx.1 hx.2 _)))
  refine wpQuiet_nil ?_
  intro w7 hw7
  obtain ⟨nq, rfl⟩ := hw7
  have al := (Below.refl w.heap.size w).alloc (Nat.le_refl _) (.cells #[.int .i64 (l : Int), .int .i64 (q : Int)] 71)
  have hA6 := PK.out.below al hbl
  have hA7 := hA6.below (below_drewN (Below.refl _ _) nq) hA6.lt
  have hB7 := Turns.of_below (below_drewN al nq) (Nat.le_refl _) [b]
  clear PK al hA6 a0 a1 z0 z1
  generalize (w.alloc (.cells #[.int .i64 (l : Int), .int .i64 (q : Int)] 71)).drewN nq = W7 at hA7 hB7 ⊢
  have s0 := hA7.cell hh
  have s1 := hA7.frozen q
  have R : Hid (∀ v, v = min (f q) (min 1000000000000 (f l + x)) → AHas (W7.setCell ⟨b, q, none⟩ (.int .i64 v)) b (fun j => if j = q then min (f q) (min 1000000000000 (f l + x)) else f j)) := fun v hv => (hA7.set q v hh).congr (fun j _ => by rw [hv])
  have B : Hid (∀ v, Turns w (W7.setCell ⟨b, q, none⟩ (.int .i64 v)) [b]) := fun v => hB7.trans (Turns.of_grown (gr_setCell _ _ _ _))
  clear hA7 hB7
  go_simp
  go_wp2 <;>
  · go_end0
    exact ⟨⟨_, rfl⟩, R.out _ (by omega), B.out _⟩

set_option maxRecDepth 100000 in
set_option maxHeartbeats 4000000 in
theorem sumsFrom_any (eo : Option Addr) (k m ecap : Nat) (L H : Nat → Int) (uo : Option Addr) (ucap : Nat) (U : Nat → Int) (r : Nat) (hr : r < k) (hk : k ≤ 24) (hE : ∀ i, i < m → 0 ≤ L i ∧ L i < H i ∧ H i < (k : Int)) (hI : InF m U) (hm : m ≤ 1048576) (w : World) (he : ERow w eo m L H) (hU : IRow w uo m U) :
    Calls Try.prog 73 #[.int .i64 r, .slice eo m ecap, .slice uo m ucap] w fun e w' => e = .returned (.agg (arr (cl L H U r m))) ∧ Below w.heap.size w w' := by
  have HI : Hid (InF m U ∧ ∀ i, i < m → 0 ≤ L i ∧ L i < H i ∧ H i < (k : Int)) := ⟨hI, hE⟩
  clear hI hE
  go_enter Try.func73, Try.ntmps73
  go_wp2_with fail
  have A0 : AHas ((w.alloc (.cells (arr (fun _ => 0)) 103)).alloc (.cells (arr (fun _ => 0)) 103)) (w.heap.size + 1) (fun _ => 0) := heap_alloc2_new w _ _
  have R0 : AHas ((w.alloc (.cells (arr (fun _ => 0)) 103)).alloc (.cells (arr (fun _ => 0)) 103)) w.heap.size (fun _ => 0) := heap_alloc2_old w _ _
  have hB0 : Below w.heap.size w ((w.alloc (.cells (arr (fun _ => 0)) 103)).alloc (.cells (arr (fun _ => 0)) 103)) := ((Below.refl _ w).alloc (Nat.le_refl _) _).alloc (by simp) _
  have ez : (.cells (arr fun _ => 0) 103 : Obj) = .cells #[.int .i64 0, .int .i64 0, .int .i64 0, .int .i64 0, .int .i64 0, .int .i64 0, .int .i64 0, .int .i64 0, .int .i64 0, .int .i64 0, .int .i64 0, .int .i64 0, .int .i64 0, .int .i64 0, .int .i64 0, .int .i64 0, .int .i64 0, .int .i64 0, .int .i64 0, .int .i64 0, .int .i64 0, .int .i64 0, .int .i64 0, .int .i64 0] 103 := rfl
  rw [← ez]
  have hsz : ((w.alloc (.cells (arr (fun _ => 0)) 103)).alloc (.cells (arr (fun _ => 0)) 103)).heap.size = w.heap.size + 2 := by simp
  clear ez
  generalize ((w.alloc (.cells (arr (fun _ => 0)) 103)).alloc (.cells (arr (fun _ => 0)) 103)) = W0 at A0 R0 hB0 hsz ⊢
  go_loopw [12] (fun x wr => ∃ j : Nat, j ≤ 24 ∧ x = .int .i64 j ∧ AHas wr (w.heap.size + 1) (fun q => if q < j then 1000000000000 else 0) ∧ AHas wr w.heap.size (fun _ => 0) ∧ Below w.heap.size w wr) (fun x _ => 24 - (intOf x).toNat)
  case atStart => exact ⟨0, by omega, rfl, A0.congr (fun _ _ => by simp), R0, hB0⟩
  case round =>
    obtain ⟨j, hj, rfl, A1, R1, hB1⟩ := hrel
    clear A0 R0 hB0
    by_cases hlt : j < 24
    · have hlt' : (j : Int) < 24 := by omega
      have d0 := A1.cell hlt
      have z0 := A1.frozen j
      have A2 := (A1.set j 1000000000000 hlt).congr (g := fun q => if q < j + 1 then 1000000000000 else 0) (fun q _ => by
        by_cases e : q = j
        · subst e; simp
        · simp only [e, if_false]
          by_cases e2 : q < j
          · simp [e2]; omega
          · simp [e2]; omega)
      have R2 := R1.of_block (w' := wr.setCell ⟨w.heap.size + 1, j, none⟩ (.int .i64 1000000000000)) (Below.heap_setCell _ _ _ _ (by simp))
      have hB2 := hB1.setCell (p := ⟨w.heap.size + 1, j, none⟩) (by simp) (.int .i64 1000000000000)
      clear A1 R1 hB1
      go_wp2
      go_roundw
      case rel => exact ⟨j + 1, by omega, by go_num, A2, R2, hB2⟩
      case measure => simp [intOf]; omega
    have hj24 : j = 24 := by omega
    subst hj24
    rw [show ((24 : Nat) : Int) = 24 from rfl]
    have hr24 : r < 24 := by omega
    have d0 := A1.cell hr24
    have z0 := A1.frozen r
    have hs0 : (r : Int) < 24 := by omega
    have A2 := (A1.set r 0 hr24).congr (g := cl L H U r 0) (fun q hq => by
      unfold cl
      by_cases e : q = r
      · simp [e]
      · simp [e, hq])
    have R2 := R1.of_block (w' := wr.setCell ⟨w.heap.size + 1, r, none⟩ (.int .i64 0)) (Below.heap_setCell _ _ _ _ (by simp))
    have hB2 := hB1.setCell (p := ⟨w.heap.size + 1, r, none⟩) (by simp) (.int .i64 0)
    clear A1 R1 hB1
    go_wp2_with fail
    clear d0 z0
    go_loopw [23] (fun x wq => ∃ i : Nat, i ≤ m ∧ x = .int .i64 i ∧ AHas wq (w.heap.size + 1) (cl L H U r i) ∧ AHas wq w.heap.size (fun _ => 0) ∧ Below w.heap.size w wq) (fun x _ => m - (intOf x).toNat)
    case atStart => exact ⟨0, Nat.zero_le _, rfl, A2, R2, hB2⟩
    case round =>
      clear A2 R2 hB2
      obtain ⟨i, hi, rfl, A1, R1, hB1⟩ := hrel
      by_cases hlt3 : i < m
      rotate_left
      · have hin : i = m := by omega
        subst hin
        have A3 : Hid (AHas wr (w.heap.size + 1) (cl L H U r i)) := A1
        have R3 : Hid (AHas wr w.heap.size (fun _ => 0)) := R1
        clear A1 R1
        have hB3 : Hid (Below w.heap.size w (wr.setRow w.heap.size (arr (cl L H U r i)))) := setRow_below hB1 (Nat.le_refl _) _
        go_wp2_with (first | (refine wpList_load_row rfl 103 (.tmp 7) rfl (w.heap.size + 1) rfl 103 (arr (cl L H U r i)) (0, 0) _ A3.out Try.undArr rfl (Try.infoArr _) ?_) | (refine wpList_store_row rfl 103 (.tmp 6) (.tmp 36) rfl w.heap.size (arr (cl L H U r i)) rfl rfl 103 (arr (fun _ => 0)) R3.out (Try.infoArr _) (by rw [arr_size, arr_size]) (arr_one _) ?_))
        refine bodyPost_ret (results_cell_row rfl _ _ w.heap.size 103 (arr (cl L H U r i)) (0, 0) _ rfl (R3.out.row _) Try.undArr rfl (Try.infoArr _)) rfl ?_
        exact ⟨rfl, hB3.out⟩
      obtain ⟨ab, aoff, hao, e0, e1⟩ := (he.below hB1 (Nat.le_refl _)) i hlt3
      subst hao
      obtain ⟨ub, uoff, huo, u00⟩ := hU i hlt3
      subst huo
      have hub := lt_of_cell u00
      have u0 := keep_cell hB1 (Nat.le_refl _) u00
      clear u00
      have ha := HI.out.2 i hlt3
      obtain ⟨tF, hF⟩ : ∃ tF : Nat, L i = (tF : Int) := ⟨(L i).toNat, by omega⟩
      obtain ⟨tT, hTT⟩ : ∃ tT : Nat, H i = (tT : Int) := ⟨(H i).toNat, by omega⟩
      have hk1 : (0 : Int) ≤ (i : Int) := by omega
      have hk2 : (i : Int) < (m : Int) := by omega
      have hul := lt_of_cell u0
      have A3 : Hid (AHas wr (w.heap.size + 1) (cl L H U r i)) := A1
      have R3 : Hid (AHas wr w.heap.size (fun _ => 0)) := R1
      have hsl := A1.lt
      clear A1 R1
      have hwl := R3.out.lt
      go_wp2_with fail
      have hal := ((Below.refl wr.heap.size wr).alloc (Nat.le_refl _) (.cells #[.int .i64 (tF : Int), .int .i64 (tT : Int)] 71)).drew
      have A4 : Hid (AHas (wr.alloc (.cells #[.int .i64 (tF : Int), .int .i64 (tT : Int)] 71)).drew (w.heap.size + 1) (cl L H U r i)) := A3.out.below hal hsl
      have R4 : Hid (AHas (wr.alloc (.cells #[.int .i64 (tF : Int), .int .i64 (tT : Int)] 71)).drew w.heap.size (fun _ => 0)) := R3.out.below hal hwl
      have hB4 : Hid (Below w.heap.size w (wr.alloc (.cells #[.int .i64 (tF : Int), .int .i64 (tT : Int)] 71)).drew) := hB1.trans (hal.mono (by omega))
      have y0 : (wr.alloc (.cells #[.int .i64 (tF : Int), .int .i64 (tT : Int)] 71)).drew.cell? ⟨wr.heap.size, 0, none⟩ = some (.int .i64 (tF : Int)) := by simp [go_sem]
      have y1 : (wr.alloc (.cells #[.int .i64 (tF : Int), .int .i64 (tT : Int)] 71)).drew.cell? ⟨wr.heap.size, 1, none⟩ = some (.int .i64 (tT : Int)) := by simp [go_sem]
      have y2 := keep_cell hal (Nat.le_refl _) u0
      have c0 : ∀ j, 0 ≤ cl L H U r i j ∧ cl L H U r i j ≤ 1000000000000 := cl_in r HI.out.1 i (by omega)
      have c1 := HI.out.1 i hlt3
      have hne : ub ≠ w.heap.size + 1 := by omega
      have hne2 : wr.heap.size ≠ w.heap.size + 1 := by omega
      have hlF : tF < 24 := by omega
      have hlT : tT < 24 := by omega
      clear hal A3 R3 hB1 e0 e1 u0
      go_region_held3 (fun w' => w'.cell? ⟨wr.heap.size, 0, none⟩ = some (.int .i64 (tF : Int)) ∧ w'.cell? ⟨wr.heap.size, 1, none⟩ = some (.int .i64 (tT : Int)) ∧ w'.cell? ⟨ub, uoff + i, none⟩ = some (.int .i64 (U i)))
        (first | (go_split_ands; refine ⟨?_, ?_, ?_⟩ <;> exact hT.cell (by simp; omega) (by assumption)) | go_keep)
        (first | (go_at_call 103; refine (climbFn_any tF tT (U i) (w.heap.size + 1) _ hlF hlT c0 c1 _ A4.out).mono ?_; rintro e w2 ⟨⟨v, rfl⟩, hA, hT⟩))
      have A5 := hA.congr (g := cl L H U r (i + 1)) (fun j hj => by
        have h1 : (H i).toNat = tT := by omega
        have h2 : (L i).toNat = tF := by omega
        show _ = (if j = (H i).toNat then _ else _)
        rw [h1, h2])
      have R5 := R4.out.of_block (hT.block _ R4.out.lt (by simp))
      have B5 := hB4.out.trans (hT.below (B := w.heap.size) (by have := R4.out.lt; omega) (by simp))
      clear hA A4 R4 hB4 hT
      go_wp2
      go_roundw
      case rel => exact ⟨i + 1, by omega, by go_num, A5, R5, B5⟩
      case measure => simp [intOf]; omega

/-- Many numbers behind an empty list of the call's own. -/
theorem wpList_append_ints {w : World} {ops : Array Oper} {rest : List Oper} {o : Oper} {a : Act} {Q : Exit → Act → World → Prop} (hgd : o.guard = none) (s x : Operand)
    (ho : o.op = .call { callee := .builtin .append, args := #[s, x], argTypes := #[22, 22] }) (base g cap : Nat) (f : Nat → Int) (hs : a.eval s = .slice (some ⟨g, 0, none⟩) 0 cap)
    (hown : IOwn w base g cap 0 f) (b k c : Nat) (hx : a.eval x = .slice (some ⟨b, 0, none⟩) k c) (h0 : ∀ j, j < k → w.cell? ⟨b, j, none⟩ = some (.int .i64 (f j))) (hk : k ≤ 1000000) (hk0 : 0 < k) (hbase : base ≤ w.heap.size)
    (h : ∀ g' cap' w', IOwn w' base g' cap' k f → w.grownBy w' (some g) → (g' = g ∨ g' = w.heap.size) → wpList Try.prog ops Q rest (a.put o.dst (.slice (some ⟨g', 0, none⟩) k cap')) w') : wpList Try.prog ops Q (o :: rest) a w := by
  obtain ⟨i, hi, hz0, hz1, hz2⟩ := info_parts Try.infoInt
  refine wpList_append_lies w hgd s x 22 ho base 2 i _ 1 8 Try.underlying22 hi hz0 hz1 hz2 rfl (by omega) _ 0 (icells f 0) hs hown ⟨b, 0, none⟩ k c (icells f k) hx (by rw [icells_len]; omega) ?_ ?_ (by omega) (by unfold maxLen; omega) (by omega) hbase w.heap.size rfl ?_
  · intro j u hu
    by_cases hj : j < k
    · rw [icells_at hj] at hu
      simp at hu
      subst hu
      have : (⟨b, 0, none⟩ : Addr).add j = ⟨b, j, none⟩ := by unfold Addr.add; split <;> simp_all
      rw [this]
      exact h0 j hj
    · rw [List.getElem?_eq_none (by rw [icells_len]; omega)] at hu
      cases hu
  · intro u hu
    simp [icells] at hu
    obtain ⟨j, _, rfl⟩ := hu
    rfl
  · intro g' cap' w' hown' hgrow hat hlt
    rw [show 0 + k = k by omega]
    refine h g' cap' w' ?_ hgrow ?_
    · unfold IOwn
      simpa [icells] using hown'
    · rcases hat with e | e
      · simp [Value.ownBlock] at e; exact Or.inl e.symm
      · exact Or.inr e

/-- What stands where the sums lie in a new block of their own. -/
structure Low (w w2 : World) (po : Option Addr) (k pcap : Nat) (f : Nat → Int) (X : World) : Prop where
  has : AHas X w2.heap.size f
  bel : Below w.heap.size w X
  ord : X.cell? ⟨w.heap.size, 0, none⟩ = some (.slice po k pcap)
  siz : X.heap.size = w2.heap.size + 1
theorem low_new {w w2 : World} {po : Option Addr} {k pcap : Nat} (hB : Below w.heap.size w w2) (q : w2.cell? ⟨w.heap.size, 0, none⟩ = some (.slice po k pcap)) (hs : w.heap.size < w2.heap.size) (f : Nat → Int) :
    Low w w2 po k pcap f ((w2.alloc (.cells (arr fun _ => 0) 103)).setRow w2.heap.size (arr f)) :=
  ⟨(ahas_new w2).row f, setRow_below (hB.alloc (by omega) _) (by omega) _, by
    rw [cell_setRow_other _ _ _ _ (by simp; omega)]
    exact keep_cell ((Below.refl w2.heap.size w2).alloc (Nat.le_refl _) _) (Nat.le_refl _) q, by simp⟩

set_option maxRecDepth 100000 in
set_option maxHeartbeats 4000000 in
theorem implClimb_any (po : Option Addr) (k pcap : Nat) (eo : Option Addr) (m ecap : Nat) (L H : Nat → Int) (uo : Option Addr) (u ucap : Nat) (U : Nat → Int) (vo : Option Addr) (v vcap : Nat) (V : Nat → Int) (r : Int) (bk : Bool) (hk : k ≤ 1048576) (hm : m ≤ 1048576) (hu : u ≤ 1048576) (hv : v ≤ 1048576) (w : World) (he : ERow w eo m L H) (hU : IRow w uo u U) (hV : IRow w vo v V) :
    Calls Try.prog 32 #[.agg #[.slice po k pcap, .slice eo m ecap], .agg #[.slice uo u ucap, .slice vo v vcap], .int .i64 r, .bool bk] w fun e w' => Ans w w' e (lenC k m L H u U v V r) (cl L H (wts U V bk) r.toNat m) := by
  by_cases hT : TOld k m L H u U v V ∧ RIn k r
  rotate_left
  · rw [lenC_no hT]
    have HN : Hid (¬ (TOld k m L H u U v V ∧ RIn k r)) := hT
    clear hT
    go_enter Try.func32, Try.ntmps32
    go_wp2_with fail
    refine (climbOk_any po k pcap eo m ecap L H uo u ucap U vo v vcap V r hk hm hu hv _ ((he.alloc _).alloc _) ((hU.alloc _).alloc _) ((hV.alloc _).alloc _)).mono ?_
    rintro e w1 ⟨⟨b, rfl, hb⟩, hb1⟩
    obtain rfl : b = false := by
      cases b
      · rfl
      · exact absurd (hb.1 rfl) HN.out
    clear hb
    go_wp2
    go_ret
    exact ⟨_, _, rfl, fun h => by omega, unbox2 (hb1.alloc (by have := hb1.size; omega) _) (by simp; omega)⟩
  obtain ⟨hT, hR⟩ := hT
  rw [lenC_yes hT hR]
  obtain ⟨hk1, hk2⟩ := told_k hT
  obtain rfl : u = m := hT.2.1
  obtain rfl : v = u := hT.2.2.1
  have HT : Hid (TOld k v L H v U v V ∧ RIn k r) := ⟨hT, hR⟩
  obtain ⟨hr0, hr1⟩ := hR
  obtain ⟨rn, rfl⟩ : ∃ rn : Nat, r = (rn : Int) := ⟨r.toNat, by omega⟩
  have hrn : ((rn : Int)).toNat = rn := by simp
  rw [hrn]
  clear hT hrn
  go_enter Try.func32, Try.ntmps32
  go_wp2_with fail
  refine (climbOk_any po k pcap eo v ecap L H uo v ucap U vo v vcap V rn hk hm hu hv _ ((he.alloc _).alloc _) ((hU.alloc _).alloc _) ((hV.alloc _).alloc _)).mono ?_
  rintro e w1 ⟨⟨b, rfl, hb⟩, hb1⟩
  obtain rfl : b = true := hb.2 HT.out
  have hA1 := hb1.mono (B' := w.heap.size + 2) (by simp)
  obtain ⟨⟨q0, q1⟩, ⟨q2, q3⟩, q6⟩ := box2m hA1
  clear hb hb1
  have hW1 := ((he.alloc _).alloc _).below hA1 (by simp)
  have hW2 : IRow w1 (if bk then vo else uo) v (wts U V bk) := by
    cases bk
    · exact ((hU.alloc _).alloc _).below hA1 (by simp)
    · exact ((hV.alloc _).alloc _).below hA1 (by simp)
  have hI := wts_in HT.out.1.2.2.2.1 HT.out.1.2.2.2.2 bk
  cases bk
  · simp only [if_true, if_false, Bool.false_eq_true, reduceIte] at hW2
    go_wp2_with fail
    refine (sumsFrom_any eo k v ecap L H _ _ _ rn (by omega) hk2 (told_e HT.out.1) hI hm _ hW1 hW2).mono ?_
    rintro e w2 ⟨rfl, hb2⟩
    replace q0 := keep_cell hb2 (Nat.le_refl _) q0
    have hs2 := hb2.size
    have hB2 := unbox2 (below_next hA1 (by simp) hb2) (by omega)
    have hs3 : w.heap.size ≤ w2.heap.size := by omega
    have hs4 : w.heap.size < w2.heap.size := by omega
    have HQ : Hid (AHas (w2.alloc (.cells (arr fun _ => 0) 103)) w2.heap.size (fun _ => 0)) := ahas_new w2
    have hk24 : (k : Int) ≤ 24 := by omega
    have PK : Hid (Low w w2 po k pcap (cl L H (wts U V false) rn v) ((w2.alloc (.cells (arr fun _ => 0) 103)).setRow w2.heap.size (arr (cl L H (wts U V false) rn v)))) := low_new hB2 q0 hs4 _
    clear hW1 hW2 hb2 hA1 q0 q1 q2 q3 hB2
    go_wp2_with (first | (refine wpList_store_row rfl 103 (.tmp 10) (.tmp 26) rfl w2.heap.size (arr (cl L H (wts U V false) rn v)) rfl rfl 103 (arr (fun _ => 0)) HQ.out (Try.infoArr _) (by rw [arr_size, arr_size]) (arr_one _) ?_; generalize hX : World.setRow _ _ _ = X; have PK' : Low w w2 po k pcap (cl L H (wts U V false) rn v) X := (by rw [← hX]; exact PK.out); clear hX PK HQ; obtain ⟨a1, a2, a3, a4⟩ := PK') | (at_builtin; refine wpList_append_ints rfl _ _ rfl w.heap.size (w2.heap.size + 1) 0 (cl L H (wts U V false) rn v) rfl (by have := IOwn.empty X (base := w.heap.size) (by omega) (cl L H (wts U V false) rn v); rw [a4] at this; exact this) w2.heap.size k 24 rfl (fun j hj => keep_cell ((Below.refl X.heap.size X).alloc (Nat.le_refl _) _) (Nat.le_refl _) (a1.cell (by omega))) (by omega) (by omega) (by simp; omega) ?_; intro g' c' w5 ho5 hg5 ha5))
    go_ret
    exact ⟨_, _, rfl, fun _ => ⟨g', rfl, ho5.base, ho5.has⟩, (a2.alloc (by omega) _).grown hg5 (by simp; omega) (fun j hj => by cases hj; omega)⟩
  · simp only [if_true, if_false, Bool.false_eq_true, reduceIte] at hW2
    go_wp2_with fail
    refine (sumsFrom_any eo k v ecap L H _ _ _ rn (by omega) hk2 (told_e HT.out.1) hI hm _ hW1 hW2).mono ?_
    rintro e w2 ⟨rfl, hb2⟩
    replace q0 := keep_cell hb2 (Nat.le_refl _) q0
    have hs2 := hb2.size
    have hB2 := unbox2 (below_next hA1 (by simp) hb2) (by omega)
    have hs3 : w.heap.size ≤ w2.heap.size := by omega
    have hs4 : w.heap.size < w2.heap.size := by omega
    have HQ : Hid (AHas (w2.alloc (.cells (arr fun _ => 0) 103)) w2.heap.size (fun _ => 0)) := ahas_new w2
    have hk24 : (k : Int) ≤ 24 := by omega
    have PK : Hid (Low w w2 po k pcap (cl L H (wts U V true) rn v) ((w2.alloc (.cells (arr fun _ => 0) 103)).setRow w2.heap.size (arr (cl L H (wts U V true) rn v)))) := low_new hB2 q0 hs4 _
    clear hW1 hW2 hb2 hA1 q0 q1 q2 q3 hB2
    go_wp2_with (first | (refine wpList_store_row rfl 103 (.tmp 10) (.tmp 26) rfl w2.heap.size (arr (cl L H (wts U V true) rn v)) rfl rfl 103 (arr (fun _ => 0)) HQ.out (Try.infoArr _) (by rw [arr_size, arr_size]) (arr_one _) ?_; generalize hX : World.setRow _ _ _ = X; have PK' : Low w w2 po k pcap (cl L H (wts U V true) rn v) X := (by rw [← hX]; exact PK.out); clear hX PK HQ; obtain ⟨a1, a2, a3, a4⟩ := PK') | (at_builtin; refine wpList_append_ints rfl _ _ rfl w.heap.size (w2.heap.size + 1) 0 (cl L H (wts U V true) rn v) rfl (by have := IOwn.empty X (base := w.heap.size) (by omega) (cl L H (wts U V true) rn v); rw [a4] at this; exact this) w2.heap.size k 24 rfl (fun j hj => keep_cell ((Below.refl X.heap.size X).alloc (Nat.le_refl _) _) (Nat.le_refl _) (a1.cell (by omega))) (by omega) (by omega) (by simp; omega) ?_; intro g' c' w5 ho5 hg5 ha5))
    go_ret
    exact ⟨_, _, rfl, fun _ => ⟨g', rfl, ho5.base, ho5.has⟩, (a2.alloc (by omega) _).grown hg5 (by simp; omega) (fun j hj => by cases hj; omega)⟩

end Go.Proofs.Ytdgnlpafmkhdjah

/-
  The block of a list that is answered, whether it is empty or not.
-/
set_option linter.unusedVariables false
set_option linter.unusedSimpArgs false
namespace Go.Proofs.Ytdgnlpafmkhdjah
open Go.RowKit

theorem pick1 {w W : World} {ao : Option Addr} {m : Nat} {R : Nat → Prop} (h : 0 < m → ∃ g, ao = some ⟨g, 0, none⟩ ∧ w.heap.size ≤ g ∧ R g) (l : ∀ g, R g → g < W.heap.size) :
    ∃ b, (0 < m → ao = some ⟨b, 0, none⟩) ∧ (0 < m → R b) ∧ w.heap.size ≤ b ∧ (0 < m → b < W.heap.size) := by
  by_cases hm : 0 < m
  · obtain ⟨g, e, hg, hR⟩ := h hm
    exact ⟨g, fun _ => e, fun _ => hR, hg, fun _ => l g hR⟩
  · exact ⟨w.heap.size, fun h => absurd h hm, fun h => absurd h hm, Nat.le_refl _, fun h => absurd h hm⟩

end Go.Proofs.Ytdgnlpafmkhdjah

/-
  What stands between the calls of a law whose answer is a list of numbers.
-/
set_option linter.unusedVariables false
set_option linter.unusedSimpArgs false
namespace Go.Proofs.Ytdgnlpafmkhdjah
open Go.ChangeShapes Go.WideShapes Go.ChangeAt Go.RowKit Go.Deep Go.Joins

theorem irow_of {W : World} {ao : Option Addr} {m b : Nat} {D : Nat → Int} (ha : 0 < m → ao = some ⟨b, 0, none⟩) (h : 0 < m → IHas W b m D) : IRow W ao m D := fun k hk => by
  rw [ha (by omega)]
  exact (h (by omega)).row k hk

/-- What stands between the law's calls: the law's argument, the list that the document answers, the list that the program answers. -/
structure SD (B : Nat) (W0 W : World) (m : Nat) (D f : Nat → Int) (gw bg : Nat) : Prop where
  hA : Below B W0 W
  doc : 0 < m → IHas W gw m D
  own : 0 < m → IHas W bg m f
theorem SD.next {B : Nat} {W0 W W' : World} {m : Nat} {D f : Nat → Int} {gw bg : Nat} (h : SD B W0 W m D f gw bg) (hB : B ≤ W0.heap.size) (hb : Below W.heap.size W W') : SD B W0 W' m D f gw bg :=
  ⟨below_next h.hA hB hb, fun hm => (h.doc hm).below hb (h.doc hm).lt, fun hm => (h.own hm).below hb (h.own hm).lt⟩
theorem SD.aside {B : Nat} {W0 W W' : World} {m b : Nat} {D f : Nat → Int} {gw bg : Nat} (h : SD B W0 W m D f gw bg) (hB : B ≤ W0.heap.size) (hg : W.grownBy W' (some b)) (hb : B ≤ b) (h1 : gw ≠ b) (h2 : bg ≠ b) : SD B W0 W' m D f gw bg :=
  ⟨h.hA.trans (gr_below hg hb (Nat.le_trans hB h.hA.size)), fun hm => (h.doc hm).grown hg (by simp; exact h1), fun hm => (h.own hm).grown hg (by simp; exact h2)⟩
theorem SD.marked {B : Nat} {W0 W W' : World} {m : Nat} {D f f' : Nat → Int} {gw bg : Nat} (h : SD B W0 W m D f gw bg) (hB : B ≤ W0.heap.size) (hg : W.grownBy W' (some bg)) (hn : 0 < m → IHas W' bg m f') (hb : B ≤ bg) (h1 : gw ≠ bg) : SD B W0 W' m D f' gw bg :=
  ⟨h.hA.trans (gr_below hg hb (Nat.le_trans hB h.hA.size)), fun hm => (h.doc hm).grown hg (by simp; exact h1), hn⟩

end Go.Proofs.Ytdgnlpafmkhdjah

/-
  Meeting and Distance, the document's, at every hierarchy and every metric.
-/
set_option linter.unusedVariables false
set_option linter.unusedSimpArgs false
namespace Go.Proofs.Ytdgnlpafmkhdjah
open Go.RowKit Go.Deep Go.Joins
attribute [local go_sem ↓] Go.wp_at_zero Go.wp_at_succ

set_option maxRecDepth 100000 in
set_option maxHeartbeats 4000000 in
theorem l6Meet_any (po : Option Addr) (k pcap : Nat) (eo : Option Addr) (m ecap : Nat) (L H : Nat → Int) (uo : Option Addr) (ucap : Nat) (U : Nat → Int) (vo : Option Addr) (vcap : Nat) (V : Nat → Int) (a b : Nat) (hT : TOld k m L H m U m V) (ha : a < k) (hb : b < k) (hm : m ≤ 1048576) (w : World) (he : ERow w eo m L H) (hU : IRow w uo m U) (hV : IRow w vo m V) :
    Calls Try.prog 74 #[.agg #[.slice po k pcap, .slice eo m ecap], .agg #[.slice uo m ucap, .slice vo m vcap], .int .i64 a, .int .i64 b] w fun e w' => e = .returned (.tuple #[.int .i64 (mt (cl L H U a m) (cl L H V b m) k).1, .int .i64 (mt (cl L H U a m) (cl L H V b m) k).2]) ∧ Below w.heap.size w w' := by
  have hk24 := (told_k hT).2
  have HT : Hid (TOld k m L H m U m V) := hT
  have HA : Hid (∀ j, 0 ≤ cl L H U a m j ∧ cl L H U a m j ≤ 1000000000000) := cl_in a hT.2.2.2.1 m (Nat.le_refl _)
  have HB : Hid (∀ j, 0 ≤ cl L H V b m j ∧ cl L H V b m j ≤ 1000000000000) := cl_in b hT.2.2.2.2 m (Nat.le_refl _)
  clear hT
  go_enter Try.func74, Try.ntmps74
  have hB0 := ((Below.refl w.heap.size w).alloc (Nat.le_refl _) (.cells #[.slice po k pcap, .slice eo m ecap] 33)).alloc (by simp) (.cells #[.slice uo m ucap, .slice vo m vcap] 35)
  have q0 : ((w.alloc (.cells #[.slice po k pcap, .slice eo m ecap] 33)).alloc (.cells #[.slice uo m ucap, .slice vo m vcap] 35)).cell? ⟨w.heap.size, 0, none⟩ = some (.slice po k pcap) := by simp [go_sem]
  have q1 : ((w.alloc (.cells #[.slice po k pcap, .slice eo m ecap] 33)).alloc (.cells #[.slice uo m ucap, .slice vo m vcap] 35)).cell? ⟨w.heap.size, 1, none⟩ = some (.slice eo m ecap) := by simp [go_sem]
  have q2 : ((w.alloc (.cells #[.slice po k pcap, .slice eo m ecap] 33)).alloc (.cells #[.slice uo m ucap, .slice vo m vcap] 35)).cell? ⟨w.heap.size + 1, 0, none⟩ = some (.slice uo m ucap) := by simp [go_sem]
  have q3 : ((w.alloc (.cells #[.slice po k pcap, .slice eo m ecap] 33)).alloc (.cells #[.slice uo m ucap, .slice vo m vcap] 35)).cell? ⟨w.heap.size + 1, 1, none⟩ = some (.slice vo m vcap) := by simp [go_sem]
  go_wp2_with fail
  refine (l6Climb_any po k pcap eo m ecap L H uo ucap U vo vcap V a false HT.out ha hm _ (he.below hB0 (Nat.le_refl _)) (hU.below hB0 (Nat.le_refl _)) (hV.below hB0 (Nat.le_refl _))).mono ?_
  rintro e w1 ⟨g1, c1, rfl, hg1, hI1, hb1⟩
  replace q0 := keep_cell hb1 (Nat.le_refl _) q0
  replace q1 := keep_cell hb1 (Nat.le_refl _) q1
  replace q2 := keep_cell hb1 (Nat.le_refl _) q2
  replace q3 := keep_cell hb1 (Nat.le_refl _) q3
  have hB1 := below_next hB0 (Nat.le_refl _) hb1
  clear hb1 hB0 hg1
  go_wp2_with fail
  refine (l6Climb_any po k pcap eo m ecap L H uo ucap U vo vcap V b true HT.out hb hm _ (he.below hB1 (Nat.le_refl _)) (hU.below hB1 (Nat.le_refl _)) (hV.below hB1 (Nat.le_refl _))).mono ?_
  rintro e w2 ⟨g2, c2, rfl, hg2, hI2, hb2⟩
  replace hI1 := hI1.below hb2 hI1.lt
  have hB2 := below_next hB1 (Nat.le_refl _) hb2
  have HI1 : Hid (IHas w2 g1 k (cl L H U a m)) := hI1
  have HI2 : Hid (IHas w2 g2 k (cl L H V b m)) := hI2
  clear hb2 hB1 hg2 q0 q1 q2 q3 hI1 hI2
  go_wp2
  go_loopw [12, 13, 14] (fun x y z wr => ∃ i : Nat, i ≤ k ∧ z = .int .i64 i ∧ x = .int .i64 (mt (cl L H U a m) (cl L H V b m) i).1 ∧ y = .int .i64 (mt (cl L H U a m) (cl L H V b m) i).2 ∧ Below w2.heap.size w2 wr) (fun _ _ z _ => k - (intOf z).toNat)
  case atStart => exact ⟨0, Nat.zero_le _, rfl, rfl, rfl, Below.refl _ _⟩
  case round =>
    obtain ⟨i, hi, rfl, rfl, rfl, hbel⟩ := hrel
    by_cases hlt : i < k
    rotate_left
    · have e : i = k := by omega
      subst e
      go_wp2
      go_ret2
      exact ⟨rfl, below_next hB2 (Nat.le_refl _) hbel⟩
    have hlt' : (i : Int) < (k : Int) := by omega
    have c0 := (HI1.out.below hbel HI1.out.lt).cell hlt
    have d0 := (HI2.out.below hbel HI2.out.lt).cell hlt
    have a0 := HA.out i
    have b0 := HB.out i
    obtain ⟨⟨p1, p2⟩, hp⟩ : ∃ p, mt (cl L H U a m) (cl L H V b m) i = p := ⟨_, rfl⟩
    by_cases hs : min 1000000000000 (cl L H U a m i + cl L H V b m i) < p2
    · have HY : Hid (mt (cl L H U a m) (cl L H V b m) (i + 1) = ((i : Int), min 1000000000000 (cl L H U a m i + cl L H V b m i))) := mt_yes hp hs
      rw [hp]
      clear hp
      go_wp2
      go_quiet (first | (go_at_call 48; refine Calls.quiet_of_same (l1Add_any _ _ a0.1 a0.2 b0.1 b0.2 _)))
      go_wp2
      go_roundw
      case rel => exact ⟨i + 1, by omega, by go_num, by rw [HY.out], by rw [HY.out], below_drewN hbel _⟩
      case measure => simp [intOf]; omega
    · have HY : Hid (mt (cl L H U a m) (cl L H V b m) (i + 1) = (p1, p2)) := mt_no hp hs
      rw [hp]
      clear hp
      go_wp2
      go_quiet (first | (go_at_call 48; refine Calls.quiet_of_same (l1Add_any _ _ a0.1 a0.2 b0.1 b0.2 _)))
      go_wp2
      go_roundw
      case rel => exact ⟨i + 1, by omega, by go_num, by rw [HY.out], by rw [HY.out], below_drewN hbel _⟩
      case measure => simp [intOf]; omega

set_option maxHeartbeats 2000000 in
theorem specMeeting_any (po : Option Addr) (k pcap : Nat) (eo : Option Addr) (m ecap : Nat) (L H : Nat → Int) (uo : Option Addr) (u ucap : Nat) (U : Nat → Int) (vo : Option Addr) (v vcap : Nat) (V : Nat → Int) (a b : Int) (hk : k ≤ 1048576) (hm : m ≤ 1048576) (hu : u ≤ 1048576) (hv : v ≤ 1048576) (w : World) (he : ERow w eo m L H) (hU : IRow w uo u U) (hV : IRow w vo v V) :
    Calls Try.prog 36 #[.agg #[.slice po k pcap, .slice eo m ecap], .agg #[.slice uo u ucap, .slice vo v vcap], .int .i64 a, .int .i64 b] w fun e w' => e = .returned (.int .i64 (mtg k m L H u U v V a b).1) ∧ Below w.heap.size w w' := by
  by_cases hT : TOld k m L H u U v V
  rotate_left
  · rw [mtg_no (fun h => hT h.1)]
    have HN : Hid (¬ TOld k m L H u U v V) := hT
    clear hT
    go_enter Try.func36, Try.ntmps36
    go_wp2_with (go_at_call 70; refine (l6Told_any po k pcap eo m ecap L H uo u ucap U vo v vcap V hk hm hu hv _ ((he.alloc _).alloc _) ((hU.alloc _).alloc _) ((hV.alloc _).alloc _)).mono ?_; rintro e w1 ⟨⟨b0, rfl, hb0⟩, hb1⟩; obtain rfl : b0 = false := (by cases b0 <;> first | rfl | exact absurd (hb0.1 rfl) HN.out); clear hb0)
    go_ret
    exact ⟨rfl, unbox2 hb1 (by simp; omega)⟩
  obtain ⟨hk1, hk2⟩ := told_k hT
  obtain rfl : u = m := hT.2.1
  obtain rfl : v = u := hT.2.2.1
  have HT : Hid (TOld k v L H v U v V) := hT
  clear hT
  rcases Bool.eq_false_or_eq_true (inB a 0 ((k : Int) - 1)) with h1 | h1
  rotate_left
  · rw [mtg_no (fun h => by have := h.2.1; simp [RIn] at this; simp [inB] at h1; omega)]
    go_enter Try.func36, Try.ntmps36
    go_wp2_with (first | (go_at_call 70; refine (l6Told_any po k pcap eo v ecap L H uo v ucap U vo v vcap V hk hm hu hv _ ((he.alloc _).alloc _) ((hU.alloc _).alloc _) ((hV.alloc _).alloc _)).mono ?_; rintro e w1 ⟨⟨b0, rfl, hb0⟩, hb1⟩; obtain rfl : b0 = true := hb0.2 HT.out; clear hb0; obtain ⟨⟨q0, q1⟩, ⟨q2, q3⟩, q6⟩ := box2m (hb1.mono (B' := w.heap.size + 2) (by simp))) | (go_at_call 46; refine (l1In_any _ _ _ _).mono ?_; rintro e wq ⟨rfl, hq⟩; have hq' := hq.symm; subst hq'; clear hq))
    go_ret
    exact ⟨rfl, unbox2 hb1 (by simp; omega)⟩
  rcases Bool.eq_false_or_eq_true (inB b 0 ((k : Int) - 1)) with h2 | h2
  rotate_left
  · rw [mtg_no (fun h => by have := h.2.2; simp [RIn] at this; simp [inB] at h2; omega)]
    go_enter Try.func36, Try.ntmps36
    go_wp2_with (first | (go_at_call 70; refine (l6Told_any po k pcap eo v ecap L H uo v ucap U vo v vcap V hk hm hu hv _ ((he.alloc _).alloc _) ((hU.alloc _).alloc _) ((hV.alloc _).alloc _)).mono ?_; rintro e w1 ⟨⟨b0, rfl, hb0⟩, hb1⟩; obtain rfl : b0 = true := hb0.2 HT.out; clear hb0; obtain ⟨⟨q0, q1⟩, ⟨q2, q3⟩, q6⟩ := box2m (hb1.mono (B' := w.heap.size + 2) (by simp))) | (go_at_call 46; refine (l1In_any _ _ _ _).mono ?_; rintro e wq ⟨rfl, hq⟩; have hq' := hq.symm; subst hq'; clear hq))
    go_ret
    exact ⟨rfl, unbox2 hb1 (by simp; omega)⟩
  have ha0 : 0 ≤ a ∧ a ≤ (k : Int) - 1 := by simpa [inB] using h1
  have hb0 : 0 ≤ b ∧ b ≤ (k : Int) - 1 := by simpa [inB] using h2
  obtain ⟨an, rfl⟩ : ∃ an : Nat, a = (an : Int) := ⟨a.toNat, by omega⟩
  obtain ⟨bn, rfl⟩ : ∃ bn : Nat, b = (bn : Int) := ⟨b.toNat, by omega⟩
  rw [mtg_yes HT.out ⟨by omega, by omega⟩ ⟨by omega, by omega⟩, Int.toNat_natCast, Int.toNat_natCast]
  go_enter Try.func36, Try.ntmps36
  go_wp2_with (first | (go_at_call 70; refine (l6Told_any po k pcap eo v ecap L H uo v ucap U vo v vcap V hk hm hu hv _ ((he.alloc _).alloc _) ((hU.alloc _).alloc _) ((hV.alloc _).alloc _)).mono ?_; rintro e w1 ⟨⟨b0, rfl, hb0⟩, hb1⟩; obtain rfl : b0 = true := hb0.2 HT.out; clear hb0; obtain ⟨⟨q0, q1⟩, ⟨q2, q3⟩, q6⟩ := box2m (hb1.mono (B' := w.heap.size + 2) (by simp))) | (go_at_call 46; refine (l1In_any _ _ _ _).mono ?_; rintro e wq ⟨rfl, hq⟩; have hq' := hq.symm; subst hq'; clear hq) | (go_at_call 74; refine (l6Meet_any po k pcap eo v ecap L H uo ucap U vo vcap V an bn HT.out (by omega) (by omega) hm _ (((he.alloc _).alloc _).below hb1 (Nat.le_refl _)) (((hU.alloc _).alloc _).below hb1 (Nat.le_refl _)) (((hV.alloc _).alloc _).below hb1 (Nat.le_refl _))).mono ?_; rintro e w2 ⟨rfl, hb2⟩))
  go_ret
  exact ⟨rfl, unbox2 (below_next hb1 (Nat.le_refl _) hb2) (by simp; omega)⟩

open Classical in
/-- What Distance answers. -/
noncomputable def dst (k : Nat) (P : Nat → Int) (m : Nat) (L H : Nat → Int) (u : Nat) (U : Nat → Int) (v : Nat) (V : Nat → Int) (a b : Int) : Int :=
  if okR k P = true ∧ RIn k a ∧ RIn k b then (mtg k m L H u U v V (rk P (-1) k a.toNat) (rk P (-1) k b.toNat)).2 else 1000000000000
theorem dst_no {k : Nat} {P : Nat → Int} {m : Nat} {L H : Nat → Int} {u : Nat} {U : Nat → Int} {v : Nat} {V : Nat → Int} {a b : Int} (h : ¬ (TOld k m L H u U v V ∧ okR k P = true ∧ RIn k a ∧ RIn k b)) : dst k P m L H u U v V a b = 1000000000000 := by
  unfold dst
  split
  · next hx => rw [mtg_no (fun y => h ⟨y.1, hx⟩)]
  · rfl
theorem dst_yes {k : Nat} {P : Nat → Int} {m : Nat} {L H : Nat → Int} {u : Nat} {U : Nat → Int} {v : Nat} {V : Nat → Int} {a b : Int} (h : okR k P = true) (ha : RIn k a) (hb : RIn k b) : dst k P m L H u U v V a b = (mtg k m L H u U v V (rk P (-1) k a.toNat) (rk P (-1) k b.toNat)).2 := by
  unfold dst; rw [if_pos ⟨h, ha, hb⟩]
theorem rk_in {k : Nat} {P : Nat → Int} (h : okR k P = true) {a : Nat} (ha : a < k) : 0 ≤ rk P (-1) k a ∧ rk P (-1) k a < (k : Int) := by
  simp [okR] at h
  exact ⟨(rk_sn P k a).1 (each_all h.2.2 a ha), (rk_hi P k a).1⟩

set_option maxHeartbeats 2000000 in
theorem specDistance_any (po : Option Addr) (k pcap : Nat) (P : Nat → Int) (eo : Option Addr) (m ecap : Nat) (L H : Nat → Int) (uo : Option Addr) (u ucap : Nat) (U : Nat → Int) (vo : Option Addr) (v vcap : Nat) (V : Nat → Int) (a b : Int) (hk : k ≤ 1048576) (hm : m ≤ 1048576) (hu : u ≤ 1048576) (hv : v ≤ 1048576) (w : World) (hP : IRow w po k P) (he : ERow w eo m L H) (hU : IRow w uo u U) (hV : IRow w vo v V) :
    Calls Try.prog 38 #[.agg #[.slice po k pcap, .slice eo m ecap], .agg #[.slice uo u ucap, .slice vo v vcap], .int .i64 a, .int .i64 b] w fun e w' => e = .returned (.int .i64 (dst k P m L H u U v V a b)) ∧ Below w.heap.size w w' := by
  by_cases hT : TOld k m L H u U v V
  rotate_left
  · rw [dst_no (fun h => hT h.1)]
    have HN : Hid (¬ TOld k m L H u U v V) := hT
    clear hT
    go_enter Try.func38, Try.ntmps38
    go_wp2_with (go_at_call 70; refine (l6Told_any po k pcap eo m ecap L H uo u ucap U vo v vcap V hk hm hu hv _ ((he.alloc _).alloc _) ((hU.alloc _).alloc _) ((hV.alloc _).alloc _)).mono ?_; rintro e w1 ⟨⟨b0, rfl, hb0⟩, hb1⟩; obtain rfl : b0 = false := (by cases b0 <;> first | rfl | exact absurd (hb0.1 rfl) HN.out); clear hb0)
    go_ret
    exact ⟨rfl, unbox2 hb1 (by simp; omega)⟩
  obtain ⟨hk1, hk2⟩ := told_k hT
  obtain rfl : u = m := hT.2.1
  obtain rfl : v = u := hT.2.2.1
  have HT : Hid (TOld k v L H v U v V) := hT
  clear hT
  rcases Bool.eq_false_or_eq_true (okR k P) with h0 | h0
  rotate_left
  · rw [dst_no (fun h => by rw [h.2.1] at h0; cases h0)]
    go_enter Try.func38, Try.ntmps38
    go_wp2_with (first | (go_at_call 70; refine (l6Told_any po k pcap eo v ecap L H uo v ucap U vo v vcap V hk hm hu hv _ ((he.alloc _).alloc _) ((hU.alloc _).alloc _) ((hV.alloc _).alloc _)).mono ?_; rintro e w1 ⟨⟨b0, rfl, hb0⟩, hb1⟩; obtain rfl : b0 = true := hb0.2 HT.out; clear hb0; obtain ⟨⟨q0, q1⟩, ⟨q2, q3⟩, q6⟩ := box2m (hb1.mono (B' := w.heap.size + 2) (by simp))) | (go_at_call 76; refine (l3Each_any po k pcap P hk _ (((hP.alloc _).alloc _).below hb1 (Nat.le_refl _))).mono ?_; rw [h0]; rintro e w3 ⟨rfl, hb3⟩))
    go_ret
    exact ⟨rfl, unbox2 (below_next hb1 (Nat.le_refl _) hb3) (by simp; omega)⟩
  have EACH : Hid (eachB k P k = true) := by simp [okR] at h0; exact h0.2.2
  rcases Bool.eq_false_or_eq_true (inB a 0 ((k : Int) - 1)) with h1 | h1
  rotate_left
  · rw [dst_no (fun h => by have := h.2.2.1; simp [RIn] at this; simp [inB] at h1; omega)]
    go_enter Try.func38, Try.ntmps38
    go_wp2_with (first | (go_at_call 70; refine (l6Told_any po k pcap eo v ecap L H uo v ucap U vo v vcap V hk hm hu hv _ ((he.alloc _).alloc _) ((hU.alloc _).alloc _) ((hV.alloc _).alloc _)).mono ?_; rintro e w1 ⟨⟨b0, rfl, hb0⟩, hb1⟩; obtain rfl : b0 = true := hb0.2 HT.out; clear hb0; obtain ⟨⟨q0, q1⟩, ⟨q2, q3⟩, q6⟩ := box2m (hb1.mono (B' := w.heap.size + 2) (by simp))) | (go_at_call 76; refine (l3Each_any po k pcap P hk _ (((hP.alloc _).alloc _).below hb1 (Nat.le_refl _))).mono ?_; rw [h0]; rintro e w3 ⟨rfl, hb3⟩) | (go_at_call 46; refine (l1In_any _ _ _ _).mono ?_; rintro e wq ⟨rfl, hq⟩; have hq' := hq.symm; subst hq'; clear hq))
    go_ret
    exact ⟨rfl, unbox2 (below_next hb1 (Nat.le_refl _) hb3) (by simp; omega)⟩
  rcases Bool.eq_false_or_eq_true (inB b 0 ((k : Int) - 1)) with h2 | h2
  rotate_left
  · rw [dst_no (fun h => by have := h.2.2.2; simp [RIn] at this; simp [inB] at h2; omega)]
    go_enter Try.func38, Try.ntmps38
    go_wp2_with (first | (go_at_call 70; refine (l6Told_any po k pcap eo v ecap L H uo v ucap U vo v vcap V hk hm hu hv _ ((he.alloc _).alloc _) ((hU.alloc _).alloc _) ((hV.alloc _).alloc _)).mono ?_; rintro e w1 ⟨⟨b0, rfl, hb0⟩, hb1⟩; obtain rfl : b0 = true := hb0.2 HT.out; clear hb0; obtain ⟨⟨q0, q1⟩, ⟨q2, q3⟩, q6⟩ := box2m (hb1.mono (B' := w.heap.size + 2) (by simp))) | (go_at_call 76; refine (l3Each_any po k pcap P hk _ (((hP.alloc _).alloc _).below hb1 (Nat.le_refl _))).mono ?_; rw [h0]; rintro e w3 ⟨rfl, hb3⟩) | (go_at_call 46; refine (l1In_any _ _ _ _).mono ?_; rintro e wq ⟨rfl, hq⟩; have hq' := hq.symm; subst hq'; clear hq))
    go_ret
    exact ⟨rfl, unbox2 (below_next hb1 (Nat.le_refl _) hb3) (by simp; omega)⟩
  have ha0 : 0 ≤ a ∧ a ≤ (k : Int) - 1 := by simpa [inB] using h1
  have hb0 : 0 ≤ b ∧ b ≤ (k : Int) - 1 := by simpa [inB] using h2
  obtain ⟨an, rfl⟩ : ∃ an : Nat, a = (an : Int) := ⟨a.toNat, by omega⟩
  obtain ⟨bn, rfl⟩ : ∃ bn : Nat, b = (bn : Int) := ⟨b.toNat, by omega⟩
  rw [dst_yes h0 ⟨by omega, by omega⟩ ⟨by omega, by omega⟩, Int.toNat_natCast, Int.toNat_natCast]
  have la : an < k := by omega
  have lb : bn < k := by omega
  obtain ⟨ra0, ra1⟩ := rk_in h0 la
  obtain ⟨rb0, rb1⟩ := rk_in h0 lb
  have ea := rk_same P 0 (-1) k an (each_all EACH.out an la)
  have eb := rk_same P 0 (-1) k bn (each_all EACH.out bn lb)
  obtain ⟨ra, hra⟩ : ∃ ra : Nat, rk P (-1) k an = (ra : Int) := ⟨(rk P (-1) k an).toNat, by omega⟩
  obtain ⟨rb, hrb⟩ : ∃ rb : Nat, rk P (-1) k bn = (rb : Int) := ⟨(rk P (-1) k bn).toNat, by omega⟩
  rw [hra] at ea ra0 ra1 ⊢
  rw [hrb] at eb rb0 rb1 ⊢
  rw [mtg_yes HT.out ⟨by omega, by omega⟩ ⟨by omega, by omega⟩, Int.toNat_natCast, Int.toNat_natCast]
  clear hra hrb
  go_enter Try.func38, Try.ntmps38
  go_wp2_with (first | (go_at_call 70; refine (l6Told_any po k pcap eo v ecap L H uo v ucap U vo v vcap V hk hm hu hv _ ((he.alloc _).alloc _) ((hU.alloc _).alloc _) ((hV.alloc _).alloc _)).mono ?_; rintro e w1 ⟨⟨b0, rfl, hb0⟩, hb1⟩; obtain rfl : b0 = true := hb0.2 HT.out; clear hb0; obtain ⟨⟨q0, q1⟩, ⟨q2, q3⟩, q6⟩ := box2m (hb1.mono (B' := w.heap.size + 2) (by simp))) | (go_at_call 76; refine (l3Each_any po k pcap P hk _ (((hP.alloc _).alloc _).below hb1 (Nat.le_refl _))).mono ?_; rw [h0]; rintro e w3 ⟨rfl, hb3⟩; replace q0 := keep_cell hb3 (Nat.le_refl _) q0; replace q1 := keep_cell hb3 (Nat.le_refl _) q1; replace q2 := keep_cell hb3 (Nat.le_refl _) q2; replace q3 := keep_cell hb3 (Nat.le_refl _) q3; replace hb1 := below_next hb1 (Nat.le_refl _) hb3) | (go_at_call 46; refine (l1In_any _ _ _ _).mono ?_; rintro e wq ⟨rfl, hq⟩; have hq' := hq.symm; subst hq'; clear hq) | (go_at_call 77; refine (l3Ranks_any po k pcap P hk2 EACH.out _ (((hP.alloc _).alloc _).below hb1 (Nat.le_refl _))).mono ?_; rintro e w4 ⟨rfl, hI4, hb4⟩; replace q0 := keep_cell hb4 (Nat.le_refl _) q0; replace q1 := keep_cell hb4 (Nat.le_refl _) q1; replace q2 := keep_cell hb4 (Nat.le_refl _) q2; replace q3 := keep_cell hb4 (Nat.le_refl _) q3; replace hb1 := below_next hb1 (Nat.le_refl _) hb4; have r0 := hI4.cell la; have r1 := hI4.cell lb; rw [ea] at r0; rw [eb] at r1))
  have hbd := (Below.refl w4.heap.size w4).drew
  replace q0 := keep_cell hbd (Nat.le_refl _) q0
  replace q1 := keep_cell hbd (Nat.le_refl _) q1
  replace q2 := keep_cell hbd (Nat.le_refl _) q2
  replace q3 := keep_cell hbd (Nat.le_refl _) q3
  replace r0 := keep_cell hbd (Nat.le_refl _) r0
  replace r1 := keep_cell hbd (Nat.le_refl _) r1
  replace hb1 := below_next hb1 (Nat.le_refl _) hbd
  clear hbd hI4
  have lia : (an : Int) < (k : Int) := by omega
  have lib : (bn : Int) < (k : Int) := by omega
  go_region_held3 (fun w' => w'.cell? ⟨w.heap.size, 0, none⟩ = some (.slice po k pcap) ∧ w'.cell? ⟨w.heap.size, 1, none⟩ = some (.slice eo v ecap) ∧ w'.cell? ⟨w.heap.size + 1, 0, none⟩ = some (.slice uo v ucap) ∧ w'.cell? ⟨w.heap.size + 1, 1, none⟩ = some (.slice vo v vcap) ∧ w'.cell? ⟨w3.heap.size, an, none⟩ = some (.int .i64 (ra : Int)) ∧ w'.cell? ⟨w3.heap.size, bn, none⟩ = some (.int .i64 (rb : Int)))
    (first | (go_split_ands; refine ⟨?_, ?_, ?_, ?_, ?_, ?_⟩ <;> exact keep_cell hb5 (Nat.le_refl _) (by assumption)) | go_keep)
    (first | (go_at_call 74; refine (l6Meet_any po k pcap eo v ecap L H uo ucap U vo vcap V ra rb HT.out (by omega) (by omega) hm _ (((he.alloc _).alloc _).below hb1 (Nat.le_refl _)) (((hU.alloc _).alloc _).below hb1 (Nat.le_refl _)) (((hV.alloc _).alloc _).below hb1 (Nat.le_refl _))).mono ?_; rintro e w5 ⟨rfl, hb5⟩))
  go_wp2
  go_ret
  exact ⟨rfl, unbox2 (below_next hb1 (Nat.le_refl _) hb5) (by simp; omega)⟩

end Go.Proofs.Ytdgnlpafmkhdjah

/-
  Meeting and Distance, the program's, at every hierarchy and every metric.
-/
set_option linter.unusedVariables false
set_option linter.unusedSimpArgs false
namespace Go.Proofs.Ytdgnlpafmkhdjah
open Go.RowKit Go.Deep Go.Joins
attribute [local go_sem ↓] Go.wp_at_zero Go.wp_at_succ

/-- Sums in a new block. -/
structure PutA (w2 : World) (f : Nat → Int) (X : World) : Prop where
  has : AHas X w2.heap.size f
  bel : Below w2.heap.size w2 X
  siz : X.heap.size = w2.heap.size + 1
theorem putA_new (w2 : World) (f : Nat → Int) : PutA w2 f ((w2.alloc (.cells (arr fun _ => 0) 103)).setRow w2.heap.size (arr f)) :=
  ⟨(ahas_new w2).row f, setRow_below ((Below.refl _ _).alloc (Nat.le_refl _) _) (Nat.le_refl _) _, by simp⟩

set_option maxRecDepth 100000 in
set_option maxHeartbeats 4000000 in
theorem meet_any (po : Option Addr) (k pcap : Nat) (eo : Option Addr) (m ecap : Nat) (L H : Nat → Int) (uo : Option Addr) (u ucap : Nat) (U : Nat → Int) (vo : Option Addr) (v vcap : Nat) (V : Nat → Int) (a b : Int) (hk : k ≤ 1048576) (hm : m ≤ 1048576) (hu : u ≤ 1048576) (hv : v ≤ 1048576) (w : World) (he : ERow w eo m L H) (hU : IRow w uo u U) (hV : IRow w vo v V) :
    Calls Try.prog 75 #[.agg #[.slice po k pcap, .slice eo m ecap], .agg #[.slice uo u ucap, .slice vo v vcap], .int .i64 a, .int .i64 b] w fun e w' => e = .returned (.tuple #[.int .i64 (mtg k m L H u U v V a b).1, .int .i64 (mtg k m L H u U v V a b).2]) ∧ Below w.heap.size w w' := by
  have hB0 := ((Below.refl w.heap.size w).alloc (Nat.le_refl _) (.cells #[.slice po k pcap, .slice eo m ecap] 33)).alloc (by simp) (.cells #[.slice uo u ucap, .slice vo v vcap] 35)
  have q0 : ((w.alloc (.cells #[.slice po k pcap, .slice eo m ecap] 33)).alloc (.cells #[.slice uo u ucap, .slice vo v vcap] 35)).cell? ⟨w.heap.size, 0, none⟩ = some (.slice po k pcap) := by simp [go_sem]
  have q1 : ((w.alloc (.cells #[.slice po k pcap, .slice eo m ecap] 33)).alloc (.cells #[.slice uo u ucap, .slice vo v vcap] 35)).cell? ⟨w.heap.size, 1, none⟩ = some (.slice eo m ecap) := by simp [go_sem]
  have q2 : ((w.alloc (.cells #[.slice po k pcap, .slice eo m ecap] 33)).alloc (.cells #[.slice uo u ucap, .slice vo v vcap] 35)).cell? ⟨w.heap.size + 1, 0, none⟩ = some (.slice uo u ucap) := by simp [go_sem]
  have q3 : ((w.alloc (.cells #[.slice po k pcap, .slice eo m ecap] 33)).alloc (.cells #[.slice uo u ucap, .slice vo v vcap] 35)).cell? ⟨w.heap.size + 1, 1, none⟩ = some (.slice vo v vcap) := by simp [go_sem]
  by_cases h1 : TOld k m L H u U v V ∧ RIn k a
  rotate_left
  · rw [mtg_no (fun h => h1 ⟨h.1, h.2.1⟩)]
    have HN : Hid (¬ (TOld k m L H u U v V ∧ RIn k a)) := h1
    clear h1
    go_enter Try.func75, Try.ntmps75
    go_wp2_with fail
    refine (climbOk_any po k pcap eo m ecap L H uo u ucap U vo v vcap V a hk hm hu hv _ (he.below hB0 (Nat.le_refl _)) (hU.below hB0 (Nat.le_refl _)) (hV.below hB0 (Nat.le_refl _))).mono ?_
    rintro e w1 ⟨⟨b0, rfl, hb0⟩, hb1⟩
    obtain rfl : b0 = false := by
      cases b0
      · rfl
      · exact absurd (hb0.1 rfl) HN.out
    clear hb0
    go_wp2
    go_ret2
    exact ⟨rfl, below_next hB0 (Nat.le_refl _) hb1⟩
  by_cases h2 : RIn k b
  rotate_left
  · rw [mtg_no (fun h => h2 h.2.2)]
    have HN : Hid (¬ (TOld k m L H u U v V ∧ RIn k b)) := fun x => h2 x.2
    have HY : Hid (TOld k m L H u U v V ∧ RIn k a) := h1
    clear h1 h2
    go_enter Try.func75, Try.ntmps75
    go_wp2_with fail
    refine (climbOk_any po k pcap eo m ecap L H uo u ucap U vo v vcap V a hk hm hu hv _ (he.below hB0 (Nat.le_refl _)) (hU.below hB0 (Nat.le_refl _)) (hV.below hB0 (Nat.le_refl _))).mono ?_
    rintro e w1 ⟨⟨b0, rfl, hb0⟩, hb1⟩
    obtain rfl : b0 = true := hb0.2 HY.out
    clear hb0
    replace q0 := keep_cell hb1 (Nat.le_refl _) q0
    replace q1 := keep_cell hb1 (Nat.le_refl _) q1
    replace q2 := keep_cell hb1 (Nat.le_refl _) q2
    replace q3 := keep_cell hb1 (Nat.le_refl _) q3
    have hB1 := below_next hB0 (Nat.le_refl _) hb1
    clear hb1 hB0
    go_wp2_with fail
    refine (climbOk_any po k pcap eo m ecap L H uo u ucap U vo v vcap V b hk hm hu hv _ (he.below hB1 (Nat.le_refl _)) (hU.below hB1 (Nat.le_refl _)) (hV.below hB1 (Nat.le_refl _))).mono ?_
    rintro e w2 ⟨⟨b0, rfl, hb0⟩, hb2⟩
    obtain rfl : b0 = false := by
      cases b0
      · rfl
      · exact absurd (hb0.1 rfl) HN.out
    clear hb0
    go_wp2
    go_ret2
    exact ⟨rfl, below_next hB1 (Nat.le_refl _) hb2⟩
  have hT := h1.1
  obtain ⟨hk1, hk2⟩ := told_k hT
  obtain rfl : u = m := hT.2.1
  obtain rfl : v = u := hT.2.2.1
  have HT : Hid (TOld k v L H v U v V ∧ RIn k a ∧ RIn k b) := ⟨hT, h1.2, h2⟩
  rw [mtg_yes hT h1.2 h2]
  obtain ⟨ha0, ha1⟩ := h1.2
  obtain ⟨hb0, hb1⟩ := h2
  obtain ⟨an, rfl⟩ : ∃ an : Nat, a = (an : Int) := ⟨a.toNat, by omega⟩
  obtain ⟨bn, rfl⟩ : ∃ bn : Nat, b = (bn : Int) := ⟨b.toNat, by omega⟩
  rw [Int.toNat_natCast, Int.toNat_natCast]
  have HF : Hid (mt (cl L H U an v) (cl L H V bn v) 24 = mt (cl L H U an v) (cl L H V bn v) k) := by
    have := mt_far (A := cl L H U an v) (B := cl L H V bn v) (k := k) (cl_far (by omega) (fun i hi => by have := told_e hT i hi; omega) v (Nat.le_refl _)) (fun r => (cl_in bn hT.2.2.2.2 v (Nat.le_refl _) r).1) (24 - k)
    rwa [show k + (24 - k) = 24 by omega] at this
  rw [← HF.out]
  have HA : Hid (∀ j, 0 ≤ cl L H U an v j ∧ cl L H U an v j ≤ 1000000000000) := cl_in an hT.2.2.2.1 v (Nat.le_refl _)
  have HB : Hid (∀ j, 0 ≤ cl L H V bn v j ∧ cl L H V bn v j ≤ 1000000000000) := cl_in bn hT.2.2.2.2 v (Nat.le_refl _)
  clear h1 hT HF
  go_enter Try.func75, Try.ntmps75
  go_wp2_with fail
  refine (climbOk_any po k pcap eo v ecap L H uo v ucap U vo v vcap V an hk hm hu hv _ (he.below hB0 (Nat.le_refl _)) (hU.below hB0 (Nat.le_refl _)) (hV.below hB0 (Nat.le_refl _))).mono ?_
  rintro e w1 ⟨⟨b0, rfl, hb0⟩, hb1⟩
  obtain rfl : b0 = true := hb0.2 ⟨HT.out.1, HT.out.2.1⟩
  clear hb0
  replace q0 := keep_cell hb1 (Nat.le_refl _) q0
  replace q1 := keep_cell hb1 (Nat.le_refl _) q1
  replace q2 := keep_cell hb1 (Nat.le_refl _) q2
  replace q3 := keep_cell hb1 (Nat.le_refl _) q3
  have hB1 := below_next hB0 (Nat.le_refl _) hb1
  clear hb1 hB0
  go_wp2_with fail
  refine (climbOk_any po k pcap eo v ecap L H uo v ucap U vo v vcap V bn hk hm hu hv _ (he.below hB1 (Nat.le_refl _)) (hU.below hB1 (Nat.le_refl _)) (hV.below hB1 (Nat.le_refl _))).mono ?_
  rintro e w2 ⟨⟨b0, rfl, hb0⟩, hb2⟩
  obtain rfl : b0 = true := hb0.2 ⟨HT.out.1, HT.out.2.2⟩
  clear hb0
  replace q0 := keep_cell hb2 (Nat.le_refl _) q0
  replace q1 := keep_cell hb2 (Nat.le_refl _) q1
  replace q2 := keep_cell hb2 (Nat.le_refl _) q2
  replace q3 := keep_cell hb2 (Nat.le_refl _) q3
  have hB2 := below_next hB1 (Nat.le_refl _) hb2
  clear hb2 hB1
  go_wp2_with fail
  refine (sumsFrom_any eo k v ecap L H uo ucap U an (by omega) hk2 (told_e HT.out.1) HT.out.1.2.2.2.1 hm _ (he.below hB2 (Nat.le_refl _)) (hU.below hB2 (Nat.le_refl _))).mono ?_
  rintro e w3 ⟨rfl, hb3⟩
  replace q0 := keep_cell hb3 (Nat.le_refl _) q0
  replace q1 := keep_cell hb3 (Nat.le_refl _) q1
  replace q2 := keep_cell hb3 (Nat.le_refl _) q2
  replace q3 := keep_cell hb3 (Nat.le_refl _) q3
  have hB3 := below_next hB2 (Nat.le_refl _) hb3
  clear hb3 hB2
  have HQ : Hid (AHas (w3.alloc (.cells (arr fun _ => 0) 103)) w3.heap.size (fun _ => 0)) := ahas_new w3
  have PK : Hid (PutA w3 (cl L H U an v) ((w3.alloc (.cells (arr fun _ => 0) 103)).setRow w3.heap.size (arr (cl L H U an v)))) := putA_new _ _
  go_wp2_with (first | (refine wpList_store_row rfl 103 _ _ rfl w3.heap.size (arr (cl L H U an v)) rfl rfl 103 (arr (fun _ => 0)) HQ.out (Try.infoArr _) (by rw [arr_size, arr_size]) (arr_one _) ?_; generalize hX : World.setRow _ _ _ = X; have PK' : PutA w3 (cl L H U an v) X := (by rw [← hX]; exact PK.out); clear hX PK HQ; obtain ⟨a1, a2, a3⟩ := PK'; replace q0 := keep_cell a2 (Nat.le_refl _) q0; replace q1 := keep_cell a2 (Nat.le_refl _) q1; replace q2 := keep_cell a2 (Nat.le_refl _) q2; replace q3 := keep_cell a2 (Nat.le_refl _) q3; replace hB3 := below_next hB3 (Nat.le_refl _) a2; clear a2))
  refine (sumsFrom_any eo k v ecap L H vo vcap V bn (by omega) hk2 (told_e HT.out.1) HT.out.1.2.2.2.2 hm _ (he.below hB3 (Nat.le_refl _)) (hV.below hB3 (Nat.le_refl _))).mono ?_
  rintro e w4 ⟨rfl, hb4⟩
  have hB4 := below_next hB3 (Nat.le_refl _) hb4
  have A4 := a1.below hb4 a1.lt
  have hs4 := hb4.size
  clear hb4 hB3 q0 q1 q2 q3 a1
  have HQ : Hid (AHas (w4.alloc (.cells (arr fun _ => 0) 103)) w4.heap.size (fun _ => 0)) := ahas_new w4
  have PK : Hid (PutA w4 (cl L H V bn v) ((w4.alloc (.cells (arr fun _ => 0) 103)).setRow w4.heap.size (arr (cl L H V bn v)))) := putA_new _ _
  go_wp2_with (first | (refine wpList_store_row rfl 103 _ _ rfl w4.heap.size (arr (cl L H V bn v)) rfl rfl 103 (arr (fun _ => 0)) HQ.out (Try.infoArr _) (by rw [arr_size, arr_size]) (arr_one _) ?_; generalize hX : World.setRow _ _ _ = Y; have PK' : PutA w4 (cl L H V bn v) Y := (by rw [← hX]; exact PK.out); clear hX PK HQ; obtain ⟨c1, c2, c3⟩ := PK'; replace A4 := A4.below c2 A4.lt; replace hB4 := below_next hB4 (Nat.le_refl _) c2; clear c2))
  have HA4 : Hid (AHas Y w3.heap.size (cl L H U an v)) := A4
  have HC4 : Hid (AHas Y w4.heap.size (cl L H V bn v)) := c1
  clear A4 c1
  go_loopw [10, 11, 42] (fun x y z wr => ∃ i : Nat, i ≤ 24 ∧ z = .int .i64 i ∧ x = .int .i64 (mt (cl L H U an v) (cl L H V bn v) i).1 ∧ y = .int .i64 (mt (cl L H U an v) (cl L H V bn v) i).2 ∧ Below Y.heap.size Y wr) (fun _ _ z _ => 24 - (intOf z).toNat)
  case atStart => exact ⟨0, Nat.zero_le _, rfl, rfl, rfl, Below.refl _ _⟩
  case round =>
    obtain ⟨i, hi, rfl, rfl, rfl, hbel⟩ := hrel
    by_cases hlt : i < 24
    rotate_left
    · have e : i = 24 := by omega
      subst e
      go_wp2
      go_ret2
      exact ⟨rfl, below_next hB4 (Nat.le_refl _) hbel⟩
    have hlt' : (i : Int) < 24 := by omega
    have c0 := (HA4.out.below hbel HA4.out.lt).cell hlt
    have d0 := (HC4.out.below hbel HC4.out.lt).cell hlt
    have a0 := HA.out i
    have b0 := HB.out i
    obtain ⟨⟨p1, p2⟩, hp⟩ : ∃ p, mt (cl L H U an v) (cl L H V bn v) i = p := ⟨_, rfl⟩
    by_cases hs : min 1000000000000 (cl L H U an v i + cl L H V bn v i) < p2
    · have HY : Hid (mt (cl L H U an v) (cl L H V bn v) (i + 1) = ((i : Int), min 1000000000000 (cl L H U an v i + cl L H V bn v i))) := mt_yes hp hs
      rw [hp]
      clear hp
      go_wp2
      go_quiet (first | (go_at_call 87; refine Calls.quiet_of_same (plus_any _ _ a0.1 a0.2 b0.1 b0.2 _)))
      go_wp2
      go_roundw
      case rel => exact ⟨i + 1, by omega, by go_num, by rw [HY.out], by rw [HY.out], below_drewN hbel _⟩
      case measure => simp [intOf]; omega
    · have HY : Hid (mt (cl L H U an v) (cl L H V bn v) (i + 1) = (p1, p2)) := mt_no hp hs
      rw [hp]
      clear hp
      go_wp2
      go_quiet (first | (go_at_call 87; refine Calls.quiet_of_same (plus_any _ _ a0.1 a0.2 b0.1 b0.2 _)))
      go_wp2
      go_roundw
      case rel => exact ⟨i + 1, by omega, by go_num, by rw [HY.out], by rw [HY.out], below_drewN hbel _⟩
      case measure => simp [intOf]; omega

set_option maxHeartbeats 2000000 in
theorem implMeeting_any (po : Option Addr) (k pcap : Nat) (eo : Option Addr) (m ecap : Nat) (L H : Nat → Int) (uo : Option Addr) (u ucap : Nat) (U : Nat → Int) (vo : Option Addr) (v vcap : Nat) (V : Nat → Int) (a b : Int) (hk : k ≤ 1048576) (hm : m ≤ 1048576) (hu : u ≤ 1048576) (hv : v ≤ 1048576) (w : World) (he : ERow w eo m L H) (hU : IRow w uo u U) (hV : IRow w vo v V) :
    Calls Try.prog 37 #[.agg #[.slice po k pcap, .slice eo m ecap], .agg #[.slice uo u ucap, .slice vo v vcap], .int .i64 a, .int .i64 b] w fun e w' => e = .returned (.int .i64 (mtg k m L H u U v V a b).1) ∧ Below w.heap.size w w' := by
  generalize hM : mtg k m L H u U v V a b = M
  go_enter Try.func37, Try.ntmps37
  go_wp2_with fail
  refine (meet_any po k pcap eo m ecap L H uo u ucap U vo v vcap V a b hk hm hu hv _ ((he.alloc _).alloc _) ((hU.alloc _).alloc _) ((hV.alloc _).alloc _)).mono ?_
  rw [hM]
  rintro e w1 ⟨rfl, hb1⟩
  go_wp2
  go_ret
  exact ⟨rfl, unbox2 hb1 (by simp; omega)⟩

set_option maxHeartbeats 2000000 in
theorem implDistance_any (po : Option Addr) (k pcap : Nat) (P : Nat → Int) (eo : Option Addr) (m ecap : Nat) (L H : Nat → Int) (uo : Option Addr) (u ucap : Nat) (U : Nat → Int) (vo : Option Addr) (v vcap : Nat) (V : Nat → Int) (a b : Int) (hk : k ≤ 1048576) (hm : m ≤ 1048576) (hu : u ≤ 1048576) (hv : v ≤ 1048576) (w : World) (hP : IRow w po k P) (he : ERow w eo m L H) (hU : IRow w uo u U) (hV : IRow w vo v V) :
    Calls Try.prog 39 #[.agg #[.slice po k pcap, .slice eo m ecap], .agg #[.slice uo u ucap, .slice vo v vcap], .int .i64 a, .int .i64 b] w fun e w' => e = .returned (.int .i64 (dst k P m L H u U v V a b)) ∧ Below w.heap.size w w' := by
  generalize hD : dst k P m L H u U v V a b = dd
  have hB0 := ((Below.refl w.heap.size w).alloc (Nat.le_refl _) (.cells #[.slice po k pcap, .slice eo m ecap] 33)).alloc (by simp) (.cells #[.slice uo u ucap, .slice vo v vcap] 35)
  have q0 : ((w.alloc (.cells #[.slice po k pcap, .slice eo m ecap] 33)).alloc (.cells #[.slice uo u ucap, .slice vo v vcap] 35)).cell? ⟨w.heap.size, 0, none⟩ = some (.slice po k pcap) := by simp [go_sem]
  have q1 : ((w.alloc (.cells #[.slice po k pcap, .slice eo m ecap] 33)).alloc (.cells #[.slice uo u ucap, .slice vo v vcap] 35)).cell? ⟨w.heap.size, 1, none⟩ = some (.slice eo m ecap) := by simp [go_sem]
  have q2 : ((w.alloc (.cells #[.slice po k pcap, .slice eo m ecap] 33)).alloc (.cells #[.slice uo u ucap, .slice vo v vcap] 35)).cell? ⟨w.heap.size + 1, 0, none⟩ = some (.slice uo u ucap) := by simp [go_sem]
  have q3 : ((w.alloc (.cells #[.slice po k pcap, .slice eo m ecap] 33)).alloc (.cells #[.slice uo u ucap, .slice vo v vcap] 35)).cell? ⟨w.heap.size + 1, 1, none⟩ = some (.slice vo v vcap) := by simp [go_sem]
  go_enter Try.func39, Try.ntmps39
  go_wp2_with fail
  refine (implRanks_any po k pcap P hk _ (hP.below hB0 (Nat.le_refl _))).mono ?_
  rintro e w1 ⟨ao, cap, rfl, hA, hb1⟩
  replace q0 := keep_cell hb1 (Nat.le_refl _) q0
  replace q1 := keep_cell hb1 (Nat.le_refl _) q1
  replace q2 := keep_cell hb1 (Nat.le_refl _) q2
  replace q3 := keep_cell hb1 (Nat.le_refl _) q3
  have hB1 := below_next hB0 (Nat.le_refl _) hb1
  clear hb1 hB0
  by_cases hok : okR k P = true ∧ RIn k a ∧ RIn k b
  rotate_left
  · obtain rfl : dd = 1000000000000 := by rw [← hD]; exact dst_no (fun h => hok h.2)
    clear hD
    have hbad : inB a 0 ((lenR k P : Int) - 1) = false ∨ inB b 0 ((lenR k P : Int) - 1) = false := by
      unfold lenR
      by_cases h0 : okR k P = true
      · rw [if_pos h0]
        simp only [h0, true_and, RIn] at hok
        by_cases ha : inB a 0 ((k : Int) - 1) = true
        · right
          by_cases hb : inB b 0 ((k : Int) - 1) = true
          · exfalso
            simp [inB] at ha hb
            omega
          · simpa using hb
        · left
          simpa using ha
      · rw [if_neg h0]
        left
        simp [inB]
        omega
    have hl24 := lenR_le k P
    generalize lenR k P = n at hA hbad hl24 ⊢
    clear hA hok
    go_wp2_with fail
    refine (placeOk_any a (n : Int) _).mono ?_
    rcases hbad with h1 | h1
    · rw [h1]
      rintro e w2 ⟨rfl, hw2⟩
      have hw2' := hw2.symm
      subst hw2'
      clear hw2
      go_wp2
      go_ret
      exact ⟨rfl, hB1⟩
    · rintro e w2 ⟨rfl, hw2⟩
      have hw2' := hw2.symm
      subst hw2'
      clear hw2
      cases h2 : inB a 0 ((n : Int) - 1)
      · go_wp2
        go_ret
        exact ⟨rfl, hB1⟩
      · go_wp2_with fail
        refine (placeOk_any b (n : Int) _).mono ?_
        rw [h1]
        rintro e w2 ⟨rfl, hw2⟩
        have hw2' := hw2.symm
        subst hw2'
        clear hw2
        go_wp2
        go_ret
        exact ⟨rfl, hB1⟩
  obtain ⟨h0, ⟨ha0, ha1⟩, ⟨hb0, hb1⟩⟩ := hok
  have hL : lenR k P = k := by unfold lenR; rw [if_pos h0]
  have hk2 : 1 ≤ k ∧ k ≤ 24 := by simp [okR] at h0; omega
  obtain ⟨an, rfl⟩ : ∃ an : Nat, a = (an : Int) := ⟨a.toNat, by omega⟩
  obtain ⟨bn, rfl⟩ : ∃ bn : Nat, b = (bn : Int) := ⟨b.toNat, by omega⟩
  rw [dst_yes h0 ⟨by omega, by omega⟩ ⟨by omega, by omega⟩, Int.toNat_natCast, Int.toNat_natCast] at hD
  have la : an < k := by omega
  have lb : bn < k := by omega
  rw [hL] at hA ⊢
  obtain ⟨g, rfl, hg, hI⟩ := hA (by omega)
  have r0 := hI.cell la
  have r1 := hI.cell lb
  clear hI hA
  generalize rk P (-1) k an = ra at r0 hD
  generalize rk P (-1) k bn = rb at r1 hD
  generalize hM : mtg k m L H u U v V ra rb = M at hD
  subst hD
  have h1 : inB (an : Int) 0 ((k : Int) - 1) = true := by simp [inB]; omega
  have h2 : inB (bn : Int) 0 ((k : Int) - 1) = true := by simp [inB]; omega
  have lia : (an : Int) < (k : Int) := by omega
  have lib : (bn : Int) < (k : Int) := by omega
  go_wp2_with fail
  refine (placeOk_any (an : Int) (k : Int) _).mono ?_
  rw [h1]
  rintro e w2 ⟨rfl, hw2⟩
  have hw2' := hw2.symm
  subst hw2'
  clear hw2
  go_wp2_with fail
  refine (placeOk_any (bn : Int) (k : Int) _).mono ?_
  rw [h2]
  rintro e w2 ⟨rfl, hw2⟩
  have hw2' := hw2.symm
  subst hw2'
  clear hw2
  go_wp2_with fail
  have hbd := (Below.refl w1.heap.size w1).drew
  replace q0 := keep_cell hbd (Nat.le_refl _) q0
  replace q1 := keep_cell hbd (Nat.le_refl _) q1
  replace q2 := keep_cell hbd (Nat.le_refl _) q2
  replace q3 := keep_cell hbd (Nat.le_refl _) q3
  replace r0 := keep_cell hbd (Nat.le_refl _) r0
  replace r1 := keep_cell hbd (Nat.le_refl _) r1
  replace hB1 := below_next hB1 (Nat.le_refl _) hbd
  clear hbd
  go_region_held3 (fun w' => w'.cell? ⟨w.heap.size, 0, none⟩ = some (.slice po k pcap) ∧ w'.cell? ⟨w.heap.size, 1, none⟩ = some (.slice eo m ecap) ∧ w'.cell? ⟨w.heap.size + 1, 0, none⟩ = some (.slice uo u ucap) ∧ w'.cell? ⟨w.heap.size + 1, 1, none⟩ = some (.slice vo v vcap) ∧ w'.cell? ⟨g, an, none⟩ = some (.int .i64 ra) ∧ w'.cell? ⟨g, bn, none⟩ = some (.int .i64 rb))
    (first | (go_split_ands; refine ⟨?_, ?_, ?_, ?_, ?_, ?_⟩ <;> exact keep_cell hb5 (Nat.le_refl _) (by assumption)) | go_keep)
    (first | (go_at_call 75; refine (meet_any po k pcap eo m ecap L H uo u ucap U vo v vcap V ra rb hk hm hu hv _ (he.below hB1 (Nat.le_refl _)) (hU.below hB1 (Nat.le_refl _)) (hV.below hB1 (Nat.le_refl _))).mono ?_; rw [hM]; rintro e w5 ⟨rfl, hb5⟩))
  go_wp2
  go_ret
  exact ⟨rfl, below_next hB1 (Nat.le_refl _) hb5⟩

end Go.Proofs.Ytdgnlpafmkhdjah
