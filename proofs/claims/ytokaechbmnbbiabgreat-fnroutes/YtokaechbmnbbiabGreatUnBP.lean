/-
  The program's guide; what Unpack answers, plainly.
-/
import Derived.Test.YtokaechbmnbbiabGreatUnMP
import Derived.Laws.Tables
set_option linter.unusedVariables false
set_option linter.unusedSimpArgs false
namespace Go.Proofs.YtokaechbmnbbiabGreat
open Go.RowKit Go.Maps Go.Deep Go.Joins
attribute [local go_sem ↓] Go.wp_at_zero Go.wp_at_succ

theorem U6.far {w W W' : World} {p : Int} {ao : Option Addr} {n cap : Nat} {po : Option Addr} {k pcap : Nat} {eo : Option Addr} {m ecap : Nat} {uo : Option Addr} {u ucap : Nat} {vo : Option Addr} {v vcap : Nat} (h : U6 w W p ao n cap po k pcap eo m ecap uo u ucap vo v vcap) (hb : Below (w.heap.size + 3) W W') : U6 w W' p ao n cap po k pcap eo m ecap uo u ucap vo v vcap :=
  ⟨h.bel.trans (hb.mono (by omega)), by rw [hb.cell (by simp)]; exact h.g0, by rw [hb.cell (by simp)]; exact h.g1, by rw [hb.cell (by simp)]; exact h.h0, by rw [hb.cell (by simp)]; exact h.h1, by rw [hb.cell (by simp)]; exact h.m0, by rw [hb.cell (by simp)]; exact h.m1, Nat.le_trans h.sz hb.size⟩
theorem setRowB {B : Nat} {w W : World} {g : Nat} (h : Below B w W) (hg : B ≤ g) (cs : Array Value) : Below B w (W.setRow g cs) :=
  ⟨h.os, h.tape, h.output, by rw [setRow_size]; exact h.size, fun k hk => (setRow_other W g k cs (by omega)).trans (h.block k hk)⟩
theorem Tryz.infoGuide : (Tryz.prog.info? 98).map (·.size) = some 8 := by kernel_rfl
def gd8 (j : Nat) : Value := if j = 0 then .int .i64 0 else if j = 1 then .slice none 0 0 else if j = 2 then .slice none 0 0 else if j = 3 then .slice none 0 0 else if j = 4 then .slice none 0 0 else if j = 5 then .slice none 0 0 else .map none
theorem gd8_new (w : World) : VHas (w.alloc (.cells #[.int .i64 0, .slice none 0 0, .slice none 0 0, .slice none 0 0, .slice none 0 0, .slice none 0 0, .map none, .map none] 98)) w.heap.size 98 8 gd8 :=
  ⟨_, Go.Deep.blk_alloc_new _ _, by simp, fun j hj => by
    have : j = 0 ∨ j = 1 ∨ j = 2 ∨ j = 3 ∨ j = 4 ∨ j = 5 ∨ j = 6 ∨ j = 7 := by omega
    rcases this with rfl | rfl | rfl | rfl | rfl | rfl | rfl | rfl <;> rfl⟩
set_option maxRecDepth 100000 in
set_option maxHeartbeats 4000000 in
theorem newGuide_any (p : Int) (ao : Option Addr) (n cap : Nat) (F T G : Nat → Int) (po : Option Addr) (k pcap : Nat) (P : Nat → Int) (eo : Option Addr) (m ecap : Nat) (L H : Nat → Int) (uo : Option Addr) (ucap : Nat) (U : Nat → Int) (vo : Option Addr) (vcap : Nat) (V : Nat → Int) (hn : n ≤ 1048576) (hm : m ≤ 1048576) (wfA : WfTo F T n) (wfE : EWf L H m) (w : World) (hr : NRows w ao n F T G po k P eo m L H uo U vo V) :
    Calls Tryz.prog 69 #[.agg #[.int .i64 p, .slice ao n cap], .agg #[.slice po k pcap, .slice eo m ecap], .agg #[.slice uo m ucap, .slice vo m vcap]] w fun e w' => ∃ ma me, e = .returned (.agg #[.int .i64 p, .slice ao n cap, .slice po k pcap, .slice eo m ecap, .slice uo m ucap, .slice vo m vcap, .map (some ma), .map (some me)]) ∧ GOn w' ao n F T G po k P eo m L H uo U vo V ma me ∧ Below w.heap.size w w' := by
  have B0 := u6_new w (p := p) (ao := ao) (n := n) (cap := cap) (po := po) (k := k) (pcap := pcap) (eo := eo) (m := m) (ecap := ecap) (uo := uo) (u := m) (ucap := ucap) (vo := vo) (v := m) (vcap := vcap)
  go_enter Tryz.func69, Tryz.ntmps69
  go_wp2_with fail
  refine wp_region_held_drew (S := fun w' => U6 w w' p ao n cap po k pcap eo m ecap uo m ucap vo m vcap) (by kernel_rfl) ((B0.next ((Below.refl _ _).alloc (Nat.le_refl _) _)).next (Below.refl _ _).drew) (fun hS => ?_)
  have R := gd8_new (((w.alloc (.cells #[.int .i64 p, .slice ao n cap] 26)).alloc (.cells #[.slice po k pcap, .slice eo m ecap] 30)).alloc (.cells #[.slice uo m ucap, .slice vo m vcap] 34))
  simp only [World.size_alloc] at R
  replace R := R.next (Below.refl _ _).drew
  generalize ((((w.alloc (.cells #[.int .i64 p, .slice ao n cap] 26)).alloc (.cells #[.slice po k pcap, .slice eo m ecap] 30)).alloc (.cells #[.slice uo m ucap, .slice vo m vcap] 34)).alloc (.cells #[.int .i64 0, .slice none 0 0, .slice none 0 0, .slice none 0 0, .slice none 0 0, .slice none 0 0, .map none, .map none] 98)).drew = W at hS R ⊢
  refine takeH 0 (some 7) (.agg #[.int .i64 p, .slice ao n cap]) rfl rfl (by kernel_rfl) (by kernel_rfl) (by kernel_rfl) (fun _ _ _ h => h) (by rfl) hS (fun w hSw => by have y0 := hSw.g0; have y1 := hSw.g1; have y2 := hSw.h0; have y3 := hSw.h1; have y4 := hSw.m0; have y5 := hSw.m1; go_split_ands; go_simp <;> first | rfl | omega | (intro h; exfalso; omega)) ?_
  simp only [Act.put, List.setIfInBounds_toArray, List.set_cons_zero, List.set_cons_succ]
  refine takeH 1 (some 8) (.agg #[.slice po k pcap, .slice eo m ecap]) rfl rfl (by kernel_rfl) (by kernel_rfl) (by kernel_rfl) (fun _ _ _ h => h) (by rfl) hS (fun w hSw => by have y0 := hSw.g0; have y1 := hSw.g1; have y2 := hSw.h0; have y3 := hSw.h1; have y4 := hSw.m0; have y5 := hSw.m1; go_split_ands; go_simp <;> first | rfl | omega | (intro h; exfalso; omega)) ?_
  simp only [Act.put, List.setIfInBounds_toArray, List.set_cons_zero, List.set_cons_succ]
  refine takeH 2 (some 9) (.agg #[.slice uo m ucap, .slice vo m vcap]) rfl rfl (by kernel_rfl) (by kernel_rfl) (by kernel_rfl) (fun _ _ _ h => h) (by rfl) hS (fun w hSw => by have y0 := hSw.g0; have y1 := hSw.g1; have y2 := hSw.h0; have y3 := hSw.h1; have y4 := hSw.m0; have y5 := hSw.m1; go_split_ands; go_simp <;> first | rfl | omega | (intro h; exfalso; omega)) ?_
  simp only [Act.put, List.setIfInBounds_toArray, List.set_cons_zero, List.set_cons_succ]
  refine takeH 3 (some 10) (.agg #[.int .i64 p, .slice ao n cap]) rfl rfl (by kernel_rfl) (by kernel_rfl) (by kernel_rfl) (fun _ _ _ h => h) (by rfl) hS (fun w hSw => by have y0 := hSw.g0; have y1 := hSw.g1; have y2 := hSw.h0; have y3 := hSw.h1; have y4 := hSw.m0; have y5 := hSw.m1; go_split_ands; go_simp <;> first | rfl | omega | (intro h; exfalso; omega)) ?_
  simp only [Act.put, List.setIfInBounds_toArray, List.set_cons_zero, List.set_cons_succ]
  refine takeH 5 (some 12) (.pointer (some ⟨w.heap.size + 1, 1, none⟩)) rfl rfl (by kernel_rfl) (by kernel_rfl) (by kernel_rfl) (fun _ _ _ h => h) (by rfl) hS (fun w hSw => by have y0 := hSw.g0; have y1 := hSw.g1; have y2 := hSw.h0; have y3 := hSw.h1; have y4 := hSw.m0; have y5 := hSw.m1; go_split_ands; go_simp <;> first | rfl | omega | (intro h; exfalso; omega)) ?_
  simp only [Act.put, List.setIfInBounds_toArray, List.set_cons_zero, List.set_cons_succ]
  refine takeH 6 (some 13) (.slice eo m ecap) rfl rfl (by kernel_rfl) (by kernel_rfl) (by kernel_rfl) (fun _ _ _ h => h) (by rfl) hS (fun w hSw => by have y0 := hSw.g0; have y1 := hSw.g1; have y2 := hSw.h0; have y3 := hSw.h1; have y4 := hSw.m0; have y5 := hSw.m1; go_split_ands; go_simp <;> first | rfl | omega | (intro h; exfalso; omega)) ?_
  simp only [Act.put, List.setIfInBounds_toArray, List.set_cons_zero, List.set_cons_succ]
  refine step1H 4 _ rfl (by kernel_rfl) (by rfl) ?_
  go_simp
  refine (arcNumbers_any p ao n cap F T G hn wfA _ (hr.below hS.bel (Nat.le_refl _)).arcs).mono ?_
  rintro e x1 ⟨rfl, hM1, hx1⟩
  have hS1 := U6.next hS hx1
  refine ⟨hS1, ?_⟩
  refine step1H 7 _ rfl (by kernel_rfl) (by rfl) ?_
  go_simp
  refine (edgeNumbers_any eo m ecap L H hm wfE _ (hr.below hS1.bel (Nat.le_refl _)).eds).mono ?_
  rintro e x2 ⟨rfl, hM2, hx2⟩
  have hS2 := U6.next hS1 hx2
  refine ⟨hS2, ?_⟩
  refine takeH 8 (some 15) (.agg #[.int .i64 p, .slice ao n cap, .slice po k pcap, .slice eo m ecap, .slice uo m ucap, .slice vo m vcap, .map (some (W.heap.size + 1)), .map (some x1.heap.size)]) rfl rfl (by kernel_rfl) (by kernel_rfl) (by kernel_rfl) (fun _ _ _ h => h) (by rfl) hS2 (fun w hSw => by have y0 := hSw.g0; have y1 := hSw.g1; have y2 := hSw.h0; have y3 := hSw.h1; have y4 := hSw.m0; have y5 := hSw.m1; go_split_ands; go_simp <;> first | rfl | omega | (intro h; exfalso; omega)) ?_
  simp only [Act.put, List.setIfInBounds_toArray, List.set_cons_zero, List.set_cons_succ]
  have hRl := R.lt
  have hx1s := hx1.size
  have hne1 : W.heap.size + 1 ≠ w.heap.size + 1 + 1 + 1 := by omega
  have hne2 : x1.heap.size ≠ w.heap.size + 1 + 1 + 1 := by omega
  replace R := (R.next hx1).next hx2
  have r0 := R.cell (j := 0) (by omega)
  have r1 := R.cell (j := 1) (by omega)
  have r2 := R.cell (j := 2) (by omega)
  have r3 := R.cell (j := 3) (by omega)
  have r4 := R.cell (j := 4) (by omega)
  have r5 := R.cell (j := 5) (by omega)
  have r6 := R.cell (j := 6) (by omega)
  have r7 := R.cell (j := 7) (by omega)
  simp only [gd8] at r0 r1 r2 r3 r4 r5 r6 r7
  have zz := fun j => R.frozen j
  refine step1H 9 _ rfl (by kernel_rfl) (by rfl) ?_
  go_simp
  have hst := (((((((((Below.refl (w.heap.size + 3) x2).setCell (p := ⟨w.heap.size + 1 + 1 + 1, 0, none⟩) (Nat.le_refl _) (.int .i64 p)).setCell (p := ⟨w.heap.size + 1 + 1 + 1, 1, none⟩) (Nat.le_refl _) (.slice ao n cap)).setCell (p := ⟨w.heap.size + 1 + 1 + 1, 2, none⟩) (Nat.le_refl _) (.slice po k pcap)).setCell (p := ⟨w.heap.size + 1 + 1 + 1, 3, none⟩) (Nat.le_refl _) (.slice eo m ecap)).setCell (p := ⟨w.heap.size + 1 + 1 + 1, 4, none⟩) (Nat.le_refl _) (.slice uo m ucap)).setCell (p := ⟨w.heap.size + 1 + 1 + 1, 5, none⟩) (Nat.le_refl _) (.slice vo m vcap)).setCell (p := ⟨w.heap.size + 1 + 1 + 1, 6, none⟩) (Nat.le_refl _) (.map (some (W.heap.size + 1)))).setCell (p := ⟨w.heap.size + 1 + 1 + 1, 7, none⟩) (Nat.le_refl _) (.map (some x1.heap.size)))
  have uR := ((((((((R.set 0 (.int .i64 p)).set 1 (.slice ao n cap)).set 2 (.slice po k pcap)).set 3 (.slice eo m ecap)).set 4 (.slice uo m ucap)).set 5 (.slice vo m vcap)).set 6 (.map (some (W.heap.size + 1)))).set 7 (.map (some x1.heap.size)))
  have q0 := uR.cell (j := 0) (by omega)
  have q1 := uR.cell (j := 1) (by omega)
  have q2 := uR.cell (j := 2) (by omega)
  have q3 := uR.cell (j := 3) (by omega)
  have q4 := uR.cell (j := 4) (by omega)
  have q5 := uR.cell (j := 5) (by omega)
  have q6 := uR.cell (j := 6) (by omega)
  have q7 := uR.cell (j := 7) (by omega)
  simp at q0 q1 q2 q3 q4 q5 q6 q7
  have hS3 := hS2.far hst
  refine ⟨hS3, ?_⟩
  refine wpAnyH_done (by kernel_rfl) ?_ _
  clear r0 r1 r2 r3 r4 r5 r6 r7 zz
  go_wp2
  exact bodyPost_ret (v := .agg #[.int .i64 p, .slice ao n cap, .slice po k pcap, .slice eo m ecap, .slice uo m ucap, .slice vo m vcap, .map (some (W.heap.size + 1)), .map (some x1.heap.size)]) (by simp [results, Tryz.results69, go_sem, q0, q1, q2, q3, q4, q5, q6, q7]) rfl ⟨_, _, rfl, ⟨hr.below hS3.bel (Nat.le_refl _), ownsMap_block (ownsMap_below hM1 hx2) (by repeat rw [Below.heap_setCell _ _ _ _ (by simpa using hne1)]), ownsMap_block hM2 (by repeat rw [Below.heap_setCell _ _ _ _ (by simpa using hne2)])⟩, hS3.bel⟩
def cn (p : Int) (n : Nat) (F T G P : Nat → Int) : Net := (netOf n F T G P (lstF p n F T P).length (Lf (lstF p n F T P)) (Hf (lstF p n F T P)) (cusT p n F T G P).1 (cusT p n F T G P).2)
end Go.Proofs.YtokaechbmnbbiabGreat
