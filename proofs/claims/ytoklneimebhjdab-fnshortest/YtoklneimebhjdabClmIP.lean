/-
  Climb, the program's, at every hierarchy and every metric.
-/
import Derived.Test.YtoklneimebhjdabPack9
import Derived.Test.YtoklneimebhjdabPack2
import Derived.Test.YtoklneimebhjdabPack5
import Derived.Laws.Rows
set_option linter.unusedVariables false
set_option linter.unusedSimpArgs false
namespace Go.Proofs.Ytoklneimebhjdab
open Go.RowKit Go.Deep Go.Joins
attribute [local go_sem ↓] Go.wp_at_zero Go.wp_at_succ

/-- Sums, one a place that there can be. -/
def arr (f : Nat → Int) : Array Value := ((List.range 24).map fun j => Value.int .i64 (f j)).toArray
theorem arr_size (f : Nat → Int) : (arr f).size = 24 := by simp [arr]
theorem arr_at (f : Nat → Int) {j : Nat} (hj : j < 24) : (arr f)[j]? = some (.int .i64 (f j)) := by
  simp only [arr, List.getElem?_toArray, List.getElem?_map, List.getElem?_range hj, Option.map_some]
theorem arr_ext {f g : Nat → Int} (h : ∀ j, j < 24 → f j = g j) : arr f = arr g := by
  simp only [arr]
  congr 1
  apply List.map_congr_left
  intro j hj
  rw [h j (List.mem_range.1 hj)]
theorem arr_set (f : Nat → Int) {i : Nat} (v : Int) (hi : i < 24) : (arr f).setIfInBounds i (.int .i64 v) = arr (fun j => if j = i then v else f j) := by
  apply Array.ext_getElem?
  intro j
  by_cases hj : j < 24
  · rw [arr_at _ hj, Array.getElem?_setIfInBounds]
    by_cases e : i = j
    · subst e
      rw [if_pos rfl, if_pos (by rw [arr_size]; exact hi)]
      simp
    · rw [if_neg e, arr_at _ hj]
      have : j ≠ i := fun h => e h.symm
      simp [this]
  · rw [Array.getElem?_eq_none (by rw [Array.size_setIfInBounds, arr_size]; omega), Array.getElem?_eq_none (by rw [arr_size]; omega)]
/-- Block b holds sums. -/
def AHas (w : World) (b : Nat) (f : Nat → Int) : Prop := w.heap[b]? = some (.cells (arr f) 76 (0, 0))
theorem AHas.cell {w : World} {b : Nat} {f : Nat → Int} (h : AHas w b f) {j : Nat} (hj : j < 24) : w.cell? ⟨b, j, none⟩ = some (.int .i64 (f j)) := by
  rw [cell_of_row w b j _ _ _ h, arr_at f hj]
theorem AHas.frozen {w : World} {b : Nat} {f : Nat → Int} (h : AHas w b f) (j : Nat) : w.frozen? ⟨b, j, none⟩ = false := frozen_of_row w b j _ _ h
theorem AHas.lt {w : World} {b : Nat} {f : Nat → Int} (h : AHas w b f) : b < w.heap.size := (Array.getElem?_eq_some_iff.1 h).1
theorem AHas.of_block {w w' : World} {b : Nat} {f : Nat → Int} (h : AHas w b f) (e : w'.heap[b]? = w.heap[b]?) : AHas w' b f := e.trans h
theorem AHas.below {w w' : World} {b B : Nat} {f : Nat → Int} (h : AHas w b f) (hb : Below B w w') (hB : b < B) : AHas w' b f := h.of_block (hb.block b hB)
theorem AHas.congr {w : World} {b : Nat} {f g : Nat → Int} (h : AHas w b f) (e : ∀ j, j < 24 → f j = g j) : AHas w b g := by
  unfold AHas; rw [← arr_ext e]; exact h
theorem AHas.set {w : World} {b : Nat} {f : Nat → Int} (h : AHas w b f) (i : Nat) (v : Int) (hi : i < 24) : AHas (w.setCell ⟨b, i, none⟩ (.int .i64 v)) b (fun j => if j = i then v else f j) := by
  unfold AHas
  rw [heap_setCell_same w b i _ _ _ h, arr_set f v hi]
theorem arr_one (f : Nat → Int) : (arr f).all (·.oneCell') = true := by
  simp [arr, Value.oneCell']
theorem Try.undArr : Try.prog.underlying 76 = some (.array 24 2) := by kernel_rfl
theorem Try.infoArr (f : Nat → Int) : (Try.prog.info? 76).map (·.size) = some (arr f).size := by rw [arr_size]; kernel_rfl
theorem AHas.row {w : World} {b : Nat} {f : Nat → Int} (h : AHas w b f) (g : Nat → Int) : AHas (w.setRow b (arr g)) b g := setRow_heap w b _ _ _ _ h
theorem setRow_below {B : Nat} {w W : World} {g : Nat} (h : Below B w W) (hg : B ≤ g) (cs : Array Value) : Below B w (W.setRow g cs) :=
  ⟨h.os, h.tape, h.output, by rw [setRow_size]; exact h.size, fun k hk => (setRow_other W g k cs (by omega)).trans (h.block k hk)⟩
theorem ahas_new (w : World) : AHas (w.alloc (.cells (arr (fun _ => 0)) 76)) w.heap.size (fun _ => 0) := heap_alloc_new w _
set_option maxHeartbeats 2000000 in
theorem climbOk_any (po : Option Addr) (k pcap : Nat) (eo : Option Addr) (m ecap : Nat) (L H : Nat → Int) (uo : Option Addr) (u ucap : Nat) (U : Nat → Int) (vo : Option Addr) (v vcap : Nat) (V : Nat → Int) (r : Int) (hk : k ≤ 1048576) (hm : m ≤ 1048576) (hu : u ≤ 1048576) (hv : v ≤ 1048576) (w : World) (he : ERow w eo m L H) (hU : IRow w uo u U) (hV : IRow w vo v V) :
    Calls Try.prog 55 #[.agg #[.slice po k pcap, .slice eo m ecap], .agg #[.slice uo u ucap, .slice vo v vcap], .int .i64 r] w fun e w' => BAns e (TOld k m L H u U v V ∧ RIn k r) ∧ Below w.heap.size w w' := by
  go_enter Try.func55, Try.ntmps55
  go_wp2_with fail
  refine (edgesOk_any (k : Int) eo m ecap L H hm _ ((he.alloc _).alloc _)).mono ?_
  rcases Bool.eq_false_or_eq_true (edgesB (k : Int) m L H) with h | h
  rotate_left
  · rw [h]
    rintro e w1 ⟨rfl, hb1⟩
    have HN : Hid (¬ (TOld k m L H u U v V ∧ RIn k r)) := fun x => by rw [x.1.1] at h; cases h
    go_wp2
    go_ret
    exact ⟨bans_no HN.out, unbox2 hb1 (by simp; omega)⟩
  rw [h]
  rintro e w1 ⟨rfl, hb1⟩
  have hA1 := hb1.mono (B' := w.heap.size + 2) (by simp)
  obtain ⟨⟨q0, q1⟩, ⟨q2, q3⟩, q6⟩ := box2m hA1
  clear hb1
  go_wp2_with fail
  refine (weightsOk_any uo u ucap U m hu hm _ (((hU.alloc _).alloc _).below hA1 (by simp))).mono ?_
  rintro e w2 ⟨⟨b, rfl, hb⟩, hw2⟩
  have hw2' := hw2.symm
  subst hw2'
  clear hw2
  cases b
  · have HN : Hid (¬ (TOld k m L H u U v V ∧ RIn k r)) := fun x => by have := hb.2 ⟨x.1.2.1, x.1.2.2.2.1⟩; cases this
    clear hb
    go_wp2
    go_ret
    exact ⟨bans_no HN.out, unbox2 hA1 (by omega)⟩
  have HU : Hid (u = m ∧ InF m U) := hb.1 rfl
  clear hb
  go_wp2_with fail
  refine (weightsOk_any vo v vcap V m hv hm _ (((hV.alloc _).alloc _).below hA1 (by simp))).mono ?_
  rintro e w2 ⟨⟨b, rfl, hb⟩, hw2⟩
  have hw2' := hw2.symm
  subst hw2'
  clear hw2
  cases b
  · have HN : Hid (¬ (TOld k m L H u U v V ∧ RIn k r)) := fun x => by have := hb.2 ⟨x.1.2.2.1, x.1.2.2.2.2⟩; cases this
    clear hb
    go_wp2
    go_ret
    exact ⟨bans_no HN.out, unbox2 hA1 (by omega)⟩
  have HV : Hid (v = m ∧ InF m V) := hb.1 rfl
  have HT : Hid (TOld k m L H u U v V) := ⟨h, HU.out.1, HV.out.1, HU.out.2, HV.out.2⟩
  clear hb
  go_wp2_with fail
  refine (placeOk_any r (k : Int) _).mono ?_
  rintro e w2 ⟨rfl, hw2⟩
  have hw2' := hw2.symm
  subst hw2'
  clear hw2
  go_wp2
  go_ret
  refine ⟨⟨_, rfl, ?_⟩, unbox2 hA1 (by omega)⟩
  have := HT.out
  simp [inB, RIn, this]
  omega
set_option maxRecDepth 100000 in
set_option maxHeartbeats 4000000 in
theorem climbFn_any (l q : Nat) (x : Int) (b : Nat) (f : Nat → Int) (hl : l < 24) (hh : q < 24) (hf : ∀ j, 0 ≤ f j ∧ f j ≤ 1000000000000) (hx : 0 ≤ x ∧ x ≤ 1000000000000) (w : World) (hA : AHas w b f) :
    Calls Try.prog 86 #[.agg #[.int .i64 (l : Int), .int .i64 (q : Int)], .int .i64 x, .pointer (some ⟨b, 0, none⟩)] w fun e w' => (∃ v, e = .returned v) ∧ AHas w' b (fun j => if j = q then min (f q) (min 1000000000000 (f l + x)) else f j) ∧ Turns w w' [b] := by
  have a0 := hA.cell hl
  have a1 := hA.cell hh
  have z0 := hA.frozen l
  have z1 := hA.frozen q
  have hbl := hA.lt
  have l1 : (l : Int) < 24 := by omega
  have l2 : (q : Int) < 24 := by omega
  have c0 := hf l
  have PK : Hid (AHas w b f) := hA
  clear hA
  go_enter Try.func86, Try.ntmps86
  go_wp2_with fail
  refine wp_region_last_lit 14 (by kernel_rfl) (by rfl) (by rfl) (by rfl) (by kernel_rfl) (by kernel_rfl) (by kernel_rfl) (by rfl) ?_
  simp only [List.take_succ_cons, List.take_zero, List.cons_append, List.nil_append]
  repeat (go_big_quiet_step (first | exact Calls.quiet_of_same (plus_any _ _ c0.1 c0.2 hx.1 hx.2 _)))
  refine wpQuiet_nil ?_
  intro w7 hw7
  obtain ⟨nq, rfl⟩ := hw7
  have al := (Below.refl w.heap.size w).alloc (Nat.le_refl _) (.cells #[.int .i64 (l : Int), .int .i64 (q : Int)] 38)
  have hA6 := PK.out.below al hbl
  have hA7 := hA6.below (below_drewN (Below.refl _ _) nq) hA6.lt
  have hB7 := Turns.of_below (below_drewN al nq) (Nat.le_refl _) [b]
  clear PK al hA6 a0 a1 z0 z1
  generalize (w.alloc (.cells #[.int .i64 (l : Int), .int .i64 (q : Int)] 38)).drewN nq = W7 at hA7 hB7 ⊢
  have s0 := hA7.cell hh
  have s1 := hA7.frozen q
  have R : Hid (∀ v, v = min (f q) (min 1000000000000 (f l + x)) → AHas (W7.setCell ⟨b, q, none⟩ (.int .i64 v)) b (fun j => if j = q then min (f q) (min 1000000000000 (f l + x)) else f j)) := fun v hv => (hA7.set q v hh).congr (fun j _ => by rw [hv])
  have B : Hid (∀ v, Turns w (W7.setCell ⟨b, q, none⟩ (.int .i64 v)) [b]) := fun v => hB7.trans (Turns.of_grown (gr_setCell _ _ _ _))
  clear hA7 hB7
  go_simp
  go_wp2 <;>
  · go_end0
    exact ⟨⟨_, rfl⟩, R.out _ (by omega), B.out _⟩
set_option maxRecDepth 100000 in
set_option maxHeartbeats 4000000 in
theorem sumsFrom_any (eo : Option Addr) (k m ecap : Nat) (L H : Nat → Int) (uo : Option Addr) (ucap : Nat) (U : Nat → Int) (r : Nat) (hr : r < k) (hk : k ≤ 24) (hE : ∀ i, i < m → 0 ≤ L i ∧ L i < H i ∧ H i < (k : Int)) (hI : InF m U) (hm : m ≤ 1048576) (w : World) (he : ERow w eo m L H) (hU : IRow w uo m U) :
    Calls Try.prog 56 #[.int .i64 r, .slice eo m ecap, .slice uo m ucap] w fun e w' => e = .returned (.agg (arr (cl L H U r m))) ∧ Below w.heap.size w w' := by
  have HI : Hid (InF m U ∧ ∀ i, i < m → 0 ≤ L i ∧ L i < H i ∧ H i < (k : Int)) := ⟨hI, hE⟩
  clear hI hE
  go_enter Try.func56, Try.ntmps56
  go_wp2_with fail
  have A0 : AHas ((w.alloc (.cells (arr (fun _ => 0)) 76)).alloc (.cells (arr (fun _ => 0)) 76)) (w.heap.size + 1) (fun _ => 0) := heap_alloc2_new w _ _
  have R0 : AHas ((w.alloc (.cells (arr (fun _ => 0)) 76)).alloc (.cells (arr (fun _ => 0)) 76)) w.heap.size (fun _ => 0) := heap_alloc2_old w _ _
  have hB0 : Below w.heap.size w ((w.alloc (.cells (arr (fun _ => 0)) 76)).alloc (.cells (arr (fun _ => 0)) 76)) := ((Below.refl _ w).alloc (Nat.le_refl _) _).alloc (by simp) _
  have ez : (.cells (arr fun _ => 0) 76 : Obj) = .cells #[.int .i64 0, .int .i64 0, .int .i64 0, .int .i64 0, .int .i64 0, .int .i64 0, .int .i64 0, .int .i64 0, .int .i64 0, .int .i64 0, .int .i64 0, .int .i64 0, .int .i64 0, .int .i64 0, .int .i64 0, .int .i64 0, .int .i64 0, .int .i64 0, .int .i64 0, .int .i64 0, .int .i64 0, .int .i64 0, .int .i64 0, .int .i64 0] 76 := rfl
  rw [← ez]
  have hsz : ((w.alloc (.cells (arr (fun _ => 0)) 76)).alloc (.cells (arr (fun _ => 0)) 76)).heap.size = w.heap.size + 2 := by simp
  clear ez
  generalize ((w.alloc (.cells (arr (fun _ => 0)) 76)).alloc (.cells (arr (fun _ => 0)) 76)) = W0 at A0 R0 hB0 hsz ⊢
  go_loopw [12] (fun x wr => ∃ j : Nat, j ≤ 24 ∧ x = .int .i64 j ∧ AHas wr (w.heap.size + 1) (fun q => if q < j then 1000000000000 else 0) ∧ AHas wr w.heap.size (fun _ => 0) ∧ Below w.heap.size w wr) (fun x _ => 24 - (intOf x).toNat)
  case atStart => exact ⟨0, by omega, rfl, A0.congr (fun _ _ => by simp), R0, hB0⟩
  case round =>
    obtain ⟨j, hj, rfl, A1, R1, hB1⟩ := hrel
    clear A0 R0 hB0
    by_cases hlt : j < 24
    · have hlt' : (j : Int) < 24 := by omega
      have d0 := A1.cell hlt
      have z0 := A1.frozen j
      have A2 := (A1.set j 1000000000000 hlt).congr (g := fun q => if q < j + 1 then 1000000000000 else 0) (fun q _ => by
        by_cases e : q = j
        · subst e; simp
        · simp only [e, if_false]
          by_cases e2 : q < j
          · simp [e2]; omega
          · simp [e2]; omega)
      have R2 := R1.of_block (w' := wr.setCell ⟨w.heap.size + 1, j, none⟩ (.int .i64 1000000000000)) (Below.heap_setCell _ _ _ _ (by simp))
      have hB2 := hB1.setCell (p := ⟨w.heap.size + 1, j, none⟩) (by simp) (.int .i64 1000000000000)
      clear A1 R1 hB1
      go_wp2
      go_roundw
      case rel => exact ⟨j + 1, by omega, by go_num, A2, R2, hB2⟩
      case measure => simp [intOf]; omega
    have hj24 : j = 24 := by omega
    subst hj24
    rw [show ((24 : Nat) : Int) = 24 from rfl]
    have hr24 : r < 24 := by omega
    have d0 := A1.cell hr24
    have z0 := A1.frozen r
    have hs0 : (r : Int) < 24 := by omega
    have A2 := (A1.set r 0 hr24).congr (g := cl L H U r 0) (fun q hq => by
      unfold cl
      by_cases e : q = r
      · simp [e]
      · simp [e, hq])
    have R2 := R1.of_block (w' := wr.setCell ⟨w.heap.size + 1, r, none⟩ (.int .i64 0)) (Below.heap_setCell _ _ _ _ (by simp))
    have hB2 := hB1.setCell (p := ⟨w.heap.size + 1, r, none⟩) (by simp) (.int .i64 0)
    clear A1 R1 hB1
    go_wp2_with fail
    clear d0 z0
    go_loopw [23] (fun x wq => ∃ i : Nat, i ≤ m ∧ x = .int .i64 i ∧ AHas wq (w.heap.size + 1) (cl L H U r i) ∧ AHas wq w.heap.size (fun _ => 0) ∧ Below w.heap.size w wq) (fun x _ => m - (intOf x).toNat)
    case atStart => exact ⟨0, Nat.zero_le _, rfl, A2, R2, hB2⟩
    case round =>
      clear A2 R2 hB2
      obtain ⟨i, hi, rfl, A1, R1, hB1⟩ := hrel
      by_cases hlt3 : i < m
      rotate_left
      · have hin : i = m := by omega
        subst hin
        have A3 : Hid (AHas wr (w.heap.size + 1) (cl L H U r i)) := A1
        have R3 : Hid (AHas wr w.heap.size (fun _ => 0)) := R1
        clear A1 R1
        have hB3 : Hid (Below w.heap.size w (wr.setRow w.heap.size (arr (cl L H U r i)))) := setRow_below hB1 (Nat.le_refl _) _
        go_wp2_with (first | (refine wpList_load_row rfl 76 (.tmp 7) rfl (w.heap.size + 1) rfl 76 (arr (cl L H U r i)) (0, 0) _ A3.out Try.undArr rfl (Try.infoArr _) ?_) | (refine wpList_store_row rfl 76 (.tmp 6) (.tmp 36) rfl w.heap.size (arr (cl L H U r i)) rfl rfl 76 (arr (fun _ => 0)) R3.out (Try.infoArr _) (by rw [arr_size, arr_size]) (arr_one _) ?_))
        refine bodyPost_ret (results_cell_row rfl _ _ w.heap.size 76 (arr (cl L H U r i)) (0, 0) _ rfl (R3.out.row _) Try.undArr rfl (Try.infoArr _)) rfl ?_
        exact ⟨rfl, hB3.out⟩
      obtain ⟨ab, aoff, hao, e0, e1⟩ := (he.below hB1 (Nat.le_refl _)) i hlt3
      subst hao
      obtain ⟨ub, uoff, huo, u00⟩ := hU i hlt3
      subst huo
      have hub := lt_of_cell u00
      have u0 := keep_cell hB1 (Nat.le_refl _) u00
      clear u00
      have ha := HI.out.2 i hlt3
      obtain ⟨tF, hF⟩ : ∃ tF : Nat, L i = (tF : Int) := ⟨(L i).toNat, by omega⟩
      obtain ⟨tT, hTT⟩ : ∃ tT : Nat, H i = (tT : Int) := ⟨(H i).toNat, by omega⟩
      have hk1 : (0 : Int) ≤ (i : Int) := by omega
      have hk2 : (i : Int) < (m : Int) := by omega
      have hul := lt_of_cell u0
      have A3 : Hid (AHas wr (w.heap.size + 1) (cl L H U r i)) := A1
      have R3 : Hid (AHas wr w.heap.size (fun _ => 0)) := R1
      have hsl := A1.lt
      clear A1 R1
      have hwl := R3.out.lt
      go_wp2_with fail
      have hal := ((Below.refl wr.heap.size wr).alloc (Nat.le_refl _) (.cells #[.int .i64 (tF : Int), .int .i64 (tT : Int)] 38)).drew
      have A4 : Hid (AHas (wr.alloc (.cells #[.int .i64 (tF : Int), .int .i64 (tT : Int)] 38)).drew (w.heap.size + 1) (cl L H U r i)) := A3.out.below hal hsl
      have R4 : Hid (AHas (wr.alloc (.cells #[.int .i64 (tF : Int), .int .i64 (tT : Int)] 38)).drew w.heap.size (fun _ => 0)) := R3.out.below hal hwl
      have hB4 : Hid (Below w.heap.size w (wr.alloc (.cells #[.int .i64 (tF : Int), .int .i64 (tT : Int)] 38)).drew) := hB1.trans (hal.mono (by omega))
      have y0 : (wr.alloc (.cells #[.int .i64 (tF : Int), .int .i64 (tT : Int)] 38)).drew.cell? ⟨wr.heap.size, 0, none⟩ = some (.int .i64 (tF : Int)) := by simp [go_sem]
      have y1 : (wr.alloc (.cells #[.int .i64 (tF : Int), .int .i64 (tT : Int)] 38)).drew.cell? ⟨wr.heap.size, 1, none⟩ = some (.int .i64 (tT : Int)) := by simp [go_sem]
      have y2 := keep_cell hal (Nat.le_refl _) u0
      have c0 : ∀ j, 0 ≤ cl L H U r i j ∧ cl L H U r i j ≤ 1000000000000 := cl_in r HI.out.1 i (by omega)
      have c1 := HI.out.1 i hlt3
      have hne : ub ≠ w.heap.size + 1 := by omega
      have hne2 : wr.heap.size ≠ w.heap.size + 1 := by omega
      have hlF : tF < 24 := by omega
      have hlT : tT < 24 := by omega
      clear hal A3 R3 hB1 e0 e1 u0
      go_region_held3 (fun w' => w'.cell? ⟨wr.heap.size, 0, none⟩ = some (.int .i64 (tF : Int)) ∧ w'.cell? ⟨wr.heap.size, 1, none⟩ = some (.int .i64 (tT : Int)) ∧ w'.cell? ⟨ub, uoff + i, none⟩ = some (.int .i64 (U i)))
        (first | (go_split_ands; refine ⟨?_, ?_, ?_⟩ <;> exact hT.cell (by simp; omega) (by assumption)) | go_keep)
        (first | (go_at_call 86; refine (climbFn_any tF tT (U i) (w.heap.size + 1) _ hlF hlT c0 c1 _ A4.out).mono ?_; rintro e w2 ⟨⟨v, rfl⟩, hA, hT⟩))
      have A5 := hA.congr (g := cl L H U r (i + 1)) (fun j hj => by
        have h1 : (H i).toNat = tT := by omega
        have h2 : (L i).toNat = tF := by omega
        show _ = (if j = (H i).toNat then _ else _)
        rw [h1, h2])
      have R5 := R4.out.of_block (hT.block _ R4.out.lt (by simp))
      have B5 := hB4.out.trans (hT.below (B := w.heap.size) (by have := R4.out.lt; omega) (by simp))
      clear hA A4 R4 hB4 hT
      go_wp2
      go_roundw
      case rel => exact ⟨i + 1, by omega, by go_num, A5, R5, B5⟩
      case measure => simp [intOf]; omega
/-- Many numbers behind an empty list of the call's own. -/
theorem wpList_append_ints {w : World} {ops : Array Oper} {rest : List Oper} {o : Oper} {a : Act} {Q : Exit → Act → World → Prop} (hgd : o.guard = none) (s x : Operand)
    (ho : o.op = .call { callee := .builtin .append, args := #[s, x], argTypes := #[27, 27] }) (base g cap : Nat) (f : Nat → Int) (hs : a.eval s = .slice (some ⟨g, 0, none⟩) 0 cap)
    (hown : IOwn w base g cap 0 f) (b k c : Nat) (hx : a.eval x = .slice (some ⟨b, 0, none⟩) k c) (h0 : ∀ j, j < k → w.cell? ⟨b, j, none⟩ = some (.int .i64 (f j))) (hk : k ≤ 1000000) (hk0 : 0 < k) (hbase : base ≤ w.heap.size)
    (h : ∀ g' cap' w', IOwn w' base g' cap' k f → w.grownBy w' (some g) → (g' = g ∨ g' = w.heap.size) → wpList Try.prog ops Q rest (a.put o.dst (.slice (some ⟨g', 0, none⟩) k cap')) w') : wpList Try.prog ops Q (o :: rest) a w := by
  obtain ⟨i, hi, hz0, hz1, hz2⟩ := info_parts Try.infoInt
  refine wpList_append_lies w hgd s x 27 ho base 2 i _ 1 8 Try.underlying27 hi hz0 hz1 hz2 rfl (by omega) _ 0 (icells f 0) hs hown ⟨b, 0, none⟩ k c (icells f k) hx (by rw [icells_len]; omega) ?_ ?_ (by omega) (by unfold maxLen; omega) (by omega) hbase w.heap.size rfl ?_
  · intro j u hu
    by_cases hj : j < k
    · rw [icells_at hj] at hu
      simp at hu
      subst hu
      have : (⟨b, 0, none⟩ : Addr).add j = ⟨b, j, none⟩ := by unfold Addr.add; split <;> simp_all
      rw [this]
      exact h0 j hj
    · rw [List.getElem?_eq_none (by rw [icells_len]; omega)] at hu
      cases hu
  · intro u hu
    simp [icells] at hu
    obtain ⟨j, _, rfl⟩ := hu
    rfl
  · intro g' cap' w' hown' hgrow hat hlt
    rw [show 0 + k = k by omega]
    refine h g' cap' w' ?_ hgrow ?_
    · unfold IOwn
      simpa [icells] using hown'
    · rcases hat with e | e
      · simp [Value.ownBlock] at e; exact Or.inl e.symm
      · exact Or.inr e
/-- What stands where the sums lie in a new block of their own. -/
structure Low (w w2 : World) (po : Option Addr) (k pcap : Nat) (f : Nat → Int) (X : World) : Prop where
  has : AHas X w2.heap.size f
  bel : Below w.heap.size w X
  ord : X.cell? ⟨w.heap.size, 0, none⟩ = some (.slice po k pcap)
  siz : X.heap.size = w2.heap.size + 1
theorem low_new {w w2 : World} {po : Option Addr} {k pcap : Nat} (hB : Below w.heap.size w w2) (q : w2.cell? ⟨w.heap.size, 0, none⟩ = some (.slice po k pcap)) (hs : w.heap.size < w2.heap.size) (f : Nat → Int) :
    Low w w2 po k pcap f ((w2.alloc (.cells (arr fun _ => 0) 76)).setRow w2.heap.size (arr f)) :=
  ⟨(ahas_new w2).row f, setRow_below (hB.alloc (by omega) _) (by omega) _, by
    rw [cell_setRow_other _ _ _ _ (by simp; omega)]
    exact keep_cell ((Below.refl w2.heap.size w2).alloc (Nat.le_refl _) _) (Nat.le_refl _) q, by simp⟩
set_option maxRecDepth 100000 in
set_option maxHeartbeats 4000000 in
theorem implClimb_any (po : Option Addr) (k pcap : Nat) (eo : Option Addr) (m ecap : Nat) (L H : Nat → Int) (uo : Option Addr) (u ucap : Nat) (U : Nat → Int) (vo : Option Addr) (v vcap : Nat) (V : Nat → Int) (r : Int) (bk : Bool) (hk : k ≤ 1048576) (hm : m ≤ 1048576) (hu : u ≤ 1048576) (hv : v ≤ 1048576) (w : World) (he : ERow w eo m L H) (hU : IRow w uo u U) (hV : IRow w vo v V) :
    Calls Try.prog 24 #[.agg #[.slice po k pcap, .slice eo m ecap], .agg #[.slice uo u ucap, .slice vo v vcap], .int .i64 r, .bool bk] w fun e w' => Ans w w' e (lenC k m L H u U v V r) (cl L H (wts U V bk) r.toNat m) := by
  by_cases hT : TOld k m L H u U v V ∧ RIn k r
  rotate_left
  · rw [lenC_no hT]
    have HN : Hid (¬ (TOld k m L H u U v V ∧ RIn k r)) := hT
    clear hT
    go_enter Try.func24, Try.ntmps24
    go_wp2_with fail
    refine (climbOk_any po k pcap eo m ecap L H uo u ucap U vo v vcap V r hk hm hu hv _ ((he.alloc _).alloc _) ((hU.alloc _).alloc _) ((hV.alloc _).alloc _)).mono ?_
    rintro e w1 ⟨⟨b, rfl, hb⟩, hb1⟩
    obtain rfl : b = false := by
      cases b
      · rfl
      · exact absurd (hb.1 rfl) HN.out
    clear hb
    go_wp2
    go_ret
    exact ⟨_, _, rfl, fun h => by omega, unbox2 (hb1.alloc (by have := hb1.size; omega) _) (by simp; omega)⟩
  obtain ⟨hT, hR⟩ := hT
  rw [lenC_yes hT hR]
  obtain ⟨hk1, hk2⟩ := told_k hT
  obtain rfl : u = m := hT.2.1
  obtain rfl : v = u := hT.2.2.1
  have HT : Hid (TOld k v L H v U v V ∧ RIn k r) := ⟨hT, hR⟩
  obtain ⟨hr0, hr1⟩ := hR
  obtain ⟨rn, rfl⟩ : ∃ rn : Nat, r = (rn : Int) := ⟨r.toNat, by omega⟩
  have hrn : ((rn : Int)).toNat = rn := by simp
  rw [hrn]
  clear hT hrn
  go_enter Try.func24, Try.ntmps24
  go_wp2_with fail
  refine (climbOk_any po k pcap eo v ecap L H uo v ucap U vo v vcap V rn hk hm hu hv _ ((he.alloc _).alloc _) ((hU.alloc _).alloc _) ((hV.alloc _).alloc _)).mono ?_
  rintro e w1 ⟨⟨b, rfl, hb⟩, hb1⟩
  obtain rfl : b = true := hb.2 HT.out
  have hA1 := hb1.mono (B' := w.heap.size + 2) (by simp)
  obtain ⟨⟨q0, q1⟩, ⟨q2, q3⟩, q6⟩ := box2m hA1
  clear hb hb1
  have hW1 := ((he.alloc _).alloc _).below hA1 (by simp)
  have hW2 : IRow w1 (if bk then vo else uo) v (wts U V bk) := by
    cases bk
    · exact ((hU.alloc _).alloc _).below hA1 (by simp)
    · exact ((hV.alloc _).alloc _).below hA1 (by simp)
  have hI := wts_in HT.out.1.2.2.2.1 HT.out.1.2.2.2.2 bk
  cases bk
  · simp only [if_true, if_false, Bool.false_eq_true, reduceIte] at hW2
    go_wp2_with fail
    refine (sumsFrom_any eo k v ecap L H _ _ _ rn (by omega) hk2 (told_e HT.out.1) hI hm _ hW1 hW2).mono ?_
    rintro e w2 ⟨rfl, hb2⟩
    replace q0 := keep_cell hb2 (Nat.le_refl _) q0
    have hs2 := hb2.size
    have hB2 := unbox2 (below_next hA1 (by simp) hb2) (by omega)
    have hs3 : w.heap.size ≤ w2.heap.size := by omega
    have hs4 : w.heap.size < w2.heap.size := by omega
    have HQ : Hid (AHas (w2.alloc (.cells (arr fun _ => 0) 76)) w2.heap.size (fun _ => 0)) := ahas_new w2
    have hk24 : (k : Int) ≤ 24 := by omega
    have PK : Hid (Low w w2 po k pcap (cl L H (wts U V false) rn v) ((w2.alloc (.cells (arr fun _ => 0) 76)).setRow w2.heap.size (arr (cl L H (wts U V false) rn v)))) := low_new hB2 q0 hs4 _
    clear hW1 hW2 hb2 hA1 q0 q1 q2 q3 hB2
    go_wp2_with (first | (refine wpList_store_row rfl 76 (.tmp 10) (.tmp 26) rfl w2.heap.size (arr (cl L H (wts U V false) rn v)) rfl rfl 76 (arr (fun _ => 0)) HQ.out (Try.infoArr _) (by rw [arr_size, arr_size]) (arr_one _) ?_; generalize hX : World.setRow _ _ _ = X; have PK' : Low w w2 po k pcap (cl L H (wts U V false) rn v) X := (by rw [← hX]; exact PK.out); clear hX PK HQ; obtain ⟨a1, a2, a3, a4⟩ := PK') | (at_builtin; refine wpList_append_ints rfl _ _ rfl w.heap.size (w2.heap.size + 1) 0 (cl L H (wts U V false) rn v) rfl (by have := IOwn.empty X (base := w.heap.size) (by omega) (cl L H (wts U V false) rn v); rw [a4] at this; exact this) w2.heap.size k 24 rfl (fun j hj => keep_cell ((Below.refl X.heap.size X).alloc (Nat.le_refl _) _) (Nat.le_refl _) (a1.cell (by omega))) (by omega) (by omega) (by simp; omega) ?_; intro g' c' w5 ho5 hg5 ha5))
    go_ret
    exact ⟨_, _, rfl, fun _ => ⟨g', rfl, ho5.base, ho5.has⟩, (a2.alloc (by omega) _).grown hg5 (by simp; omega) (fun j hj => by cases hj; omega)⟩
  · simp only [if_true, if_false, Bool.false_eq_true, reduceIte] at hW2
    go_wp2_with fail
    refine (sumsFrom_any eo k v ecap L H _ _ _ rn (by omega) hk2 (told_e HT.out.1) hI hm _ hW1 hW2).mono ?_
    rintro e w2 ⟨rfl, hb2⟩
    replace q0 := keep_cell hb2 (Nat.le_refl _) q0
    have hs2 := hb2.size
    have hB2 := unbox2 (below_next hA1 (by simp) hb2) (by omega)
    have hs3 : w.heap.size ≤ w2.heap.size := by omega
    have hs4 : w.heap.size < w2.heap.size := by omega
    have HQ : Hid (AHas (w2.alloc (.cells (arr fun _ => 0) 76)) w2.heap.size (fun _ => 0)) := ahas_new w2
    have hk24 : (k : Int) ≤ 24 := by omega
    have PK : Hid (Low w w2 po k pcap (cl L H (wts U V true) rn v) ((w2.alloc (.cells (arr fun _ => 0) 76)).setRow w2.heap.size (arr (cl L H (wts U V true) rn v)))) := low_new hB2 q0 hs4 _
    clear hW1 hW2 hb2 hA1 q0 q1 q2 q3 hB2
    go_wp2_with (first | (refine wpList_store_row rfl 76 (.tmp 10) (.tmp 26) rfl w2.heap.size (arr (cl L H (wts U V true) rn v)) rfl rfl 76 (arr (fun _ => 0)) HQ.out (Try.infoArr _) (by rw [arr_size, arr_size]) (arr_one _) ?_; generalize hX : World.setRow _ _ _ = X; have PK' : Low w w2 po k pcap (cl L H (wts U V true) rn v) X := (by rw [← hX]; exact PK.out); clear hX PK HQ; obtain ⟨a1, a2, a3, a4⟩ := PK') | (at_builtin; refine wpList_append_ints rfl _ _ rfl w.heap.size (w2.heap.size + 1) 0 (cl L H (wts U V true) rn v) rfl (by have := IOwn.empty X (base := w.heap.size) (by omega) (cl L H (wts U V true) rn v); rw [a4] at this; exact this) w2.heap.size k 24 rfl (fun j hj => keep_cell ((Below.refl X.heap.size X).alloc (Nat.le_refl _) _) (Nat.le_refl _) (a1.cell (by omega))) (by omega) (by omega) (by simp; omega) ?_; intro g' c' w5 ho5 hg5 ha5))
    go_ret
    exact ⟨_, _, rfl, fun _ => ⟨g', rfl, ho5.base, ho5.has⟩, (a2.alloc (by omega) _).grown hg5 (by simp; omega) (fun j hj => by cases hj; omega)⟩

end Go.Proofs.Ytoklneimebhjdab
