/-
  The program's Unpack.
-/
import Derived.Test.YteibbknpcgcjjabUnMP
import Derived.Laws.Tables
set_option linter.unusedVariables false
set_option linter.unusedSimpArgs false
namespace Go.Proofs.Yteibbknpcgcjjab
open Go.RowKit Go.Maps Go.Deep Go.Joins
attribute [local go_sem ↓] Go.wp_at_zero Go.wp_at_succ

theorem U6.far {w W W' : World} {p : Int} {ao : Option Addr} {n cap : Nat} {po : Option Addr} {k pcap : Nat} {eo : Option Addr} {m ecap : Nat} {uo : Option Addr} {u ucap : Nat} {vo : Option Addr} {v vcap : Nat} (h : U6 w W p ao n cap po k pcap eo m ecap uo u ucap vo v vcap) (hb : Below (w.heap.size + 3) W W') : U6 w W' p ao n cap po k pcap eo m ecap uo u ucap vo v vcap :=
  ⟨h.bel.trans (hb.mono (by omega)), by rw [hb.cell (by simp)]; exact h.g0, by rw [hb.cell (by simp)]; exact h.g1, by rw [hb.cell (by simp)]; exact h.h0, by rw [hb.cell (by simp)]; exact h.h1, by rw [hb.cell (by simp)]; exact h.m0, by rw [hb.cell (by simp)]; exact h.m1, Nat.le_trans h.sz hb.size⟩
theorem setRowB {B : Nat} {w W : World} {g : Nat} (h : Below B w W) (hg : B ≤ g) (cs : Array Value) : Below B w (W.setRow g cs) :=
  ⟨h.os, h.tape, h.output, by rw [setRow_size]; exact h.size, fun k hk => (setRow_other W g k cs (by omega)).trans (h.block k hk)⟩
theorem Try.infoGuide : (Try.prog.info? 86).map (·.size) = some 8 := by kernel_rfl
/-- The box of a guide. -/
def gd8 (j : Nat) : Value := if j = 0 then .int .i64 0 else if j = 1 then .slice none 0 0 else if j = 2 then .slice none 0 0 else if j = 3 then .slice none 0 0 else if j = 4 then .slice none 0 0 else if j = 5 then .slice none 0 0 else .map none
theorem gd8_new (w : World) : VHas (w.alloc (.cells #[.int .i64 0, .slice none 0 0, .slice none 0 0, .slice none 0 0, .slice none 0 0, .slice none 0 0, .map none, .map none] 86)) w.heap.size 86 8 gd8 :=
  ⟨_, Go.Deep.blk_alloc_new _ _, by simp, fun j hj => by
    have : j = 0 ∨ j = 1 ∨ j = 2 ∨ j = 3 ∨ j = 4 ∨ j = 5 ∨ j = 6 ∨ j = 7 := by omega
    rcases this with rfl | rfl | rfl | rfl | rfl | rfl | rfl | rfl <;> rfl⟩
set_option maxRecDepth 100000 in
set_option maxHeartbeats 4000000 in
theorem newGuide_any (p : Int) (ao : Option Addr) (n cap : Nat) (F T G : Nat → Int) (po : Option Addr) (k pcap : Nat) (P : Nat → Int) (eo : Option Addr) (m ecap : Nat) (L H : Nat → Int) (uo : Option Addr) (ucap : Nat) (U : Nat → Int) (vo : Option Addr) (vcap : Nat) (V : Nat → Int) (hn : n ≤ 1048576) (hm : m ≤ 1048576) (wfA : WfTo F T n) (wfE : EWf L H m) (w : World) (hr : NRows w ao n F T G po k P eo m L H uo U vo V) :
    Calls Try.prog 62 #[.agg #[.int .i64 p, .slice ao n cap], .agg #[.slice po k pcap, .slice eo m ecap], .agg #[.slice uo m ucap, .slice vo m vcap]] w fun e w' => ∃ ma me, e = .returned (.agg #[.int .i64 p, .slice ao n cap, .slice po k pcap, .slice eo m ecap, .slice uo m ucap, .slice vo m vcap, .map (some ma), .map (some me)]) ∧ GOn w' ao n F T G po k P eo m L H uo U vo V ma me ∧ Below w.heap.size w w' := by
  have B0 := u6_new w (p := p) (ao := ao) (n := n) (cap := cap) (po := po) (k := k) (pcap := pcap) (eo := eo) (m := m) (ecap := ecap) (uo := uo) (u := m) (ucap := ucap) (vo := vo) (v := m) (vcap := vcap)
  go_enter Try.func62, Try.ntmps62
  go_wp2_with fail
  refine wp_region_held_drew (S := fun w' => U6 w w' p ao n cap po k pcap eo m ecap uo m ucap vo m vcap) (by kernel_rfl) ((B0.next ((Below.refl _ _).alloc (Nat.le_refl _) _)).next (Below.refl _ _).drew) (fun hS => ?_)
  have R := gd8_new (((w.alloc (.cells #[.int .i64 p, .slice ao n cap] 32)).alloc (.cells #[.slice po k pcap, .slice eo m ecap] 40)).alloc (.cells #[.slice uo m ucap, .slice vo m vcap] 42))
  simp only [World.size_alloc] at R
  replace R := R.next (Below.refl _ _).drew
  generalize ((((w.alloc (.cells #[.int .i64 p, .slice ao n cap] 32)).alloc (.cells #[.slice po k pcap, .slice eo m ecap] 40)).alloc (.cells #[.slice uo m ucap, .slice vo m vcap] 42)).alloc (.cells #[.int .i64 0, .slice none 0 0, .slice none 0 0, .slice none 0 0, .slice none 0 0, .slice none 0 0, .map none, .map none] 86)).drew = W at hS R ⊢
  refine takeH 0 (some 7) (.agg #[.int .i64 p, .slice ao n cap]) rfl rfl (by kernel_rfl) (by kernel_rfl) (by kernel_rfl) (fun _ _ _ h => h) (by rfl) hS (fun w hSw => by have y0 := hSw.g0; have y1 := hSw.g1; have y2 := hSw.h0; have y3 := hSw.h1; have y4 := hSw.m0; have y5 := hSw.m1; go_split_ands; go_simp <;> first | rfl | omega | (intro h; exfalso; omega)) ?_
  simp only [Act.put, List.setIfInBounds_toArray, List.set_cons_zero, List.set_cons_succ]
  refine takeH 1 (some 8) (.agg #[.slice po k pcap, .slice eo m ecap]) rfl rfl (by kernel_rfl) (by kernel_rfl) (by kernel_rfl) (fun _ _ _ h => h) (by rfl) hS (fun w hSw => by have y0 := hSw.g0; have y1 := hSw.g1; have y2 := hSw.h0; have y3 := hSw.h1; have y4 := hSw.m0; have y5 := hSw.m1; go_split_ands; go_simp <;> first | rfl | omega | (intro h; exfalso; omega)) ?_
  simp only [Act.put, List.setIfInBounds_toArray, List.set_cons_zero, List.set_cons_succ]
  refine takeH 2 (some 9) (.agg #[.slice uo m ucap, .slice vo m vcap]) rfl rfl (by kernel_rfl) (by kernel_rfl) (by kernel_rfl) (fun _ _ _ h => h) (by rfl) hS (fun w hSw => by have y0 := hSw.g0; have y1 := hSw.g1; have y2 := hSw.h0; have y3 := hSw.h1; have y4 := hSw.m0; have y5 := hSw.m1; go_split_ands; go_simp <;> first | rfl | omega | (intro h; exfalso; omega)) ?_
  simp only [Act.put, List.setIfInBounds_toArray, List.set_cons_zero, List.set_cons_succ]
  refine takeH 3 (some 10) (.agg #[.int .i64 p, .slice ao n cap]) rfl rfl (by kernel_rfl) (by kernel_rfl) (by kernel_rfl) (fun _ _ _ h => h) (by rfl) hS (fun w hSw => by have y0 := hSw.g0; have y1 := hSw.g1; have y2 := hSw.h0; have y3 := hSw.h1; have y4 := hSw.m0; have y5 := hSw.m1; go_split_ands; go_simp <;> first | rfl | omega | (intro h; exfalso; omega)) ?_
  simp only [Act.put, List.setIfInBounds_toArray, List.set_cons_zero, List.set_cons_succ]
  refine takeH 5 (some 12) (.pointer (some ⟨w.heap.size + 1, 1, none⟩)) rfl rfl (by kernel_rfl) (by kernel_rfl) (by kernel_rfl) (fun _ _ _ h => h) (by rfl) hS (fun w hSw => by have y0 := hSw.g0; have y1 := hSw.g1; have y2 := hSw.h0; have y3 := hSw.h1; have y4 := hSw.m0; have y5 := hSw.m1; go_split_ands; go_simp <;> first | rfl | omega | (intro h; exfalso; omega)) ?_
  simp only [Act.put, List.setIfInBounds_toArray, List.set_cons_zero, List.set_cons_succ]
  refine takeH 6 (some 13) (.slice eo m ecap) rfl rfl (by kernel_rfl) (by kernel_rfl) (by kernel_rfl) (fun _ _ _ h => h) (by rfl) hS (fun w hSw => by have y0 := hSw.g0; have y1 := hSw.g1; have y2 := hSw.h0; have y3 := hSw.h1; have y4 := hSw.m0; have y5 := hSw.m1; go_split_ands; go_simp <;> first | rfl | omega | (intro h; exfalso; omega)) ?_
  simp only [Act.put, List.setIfInBounds_toArray, List.set_cons_zero, List.set_cons_succ]
  refine step1H 4 _ rfl (by kernel_rfl) (by rfl) ?_
  go_simp
  refine (arcNumbers_any p ao n cap F T G hn wfA _ (hr.below hS.bel (Nat.le_refl _)).arcs).mono ?_
  rintro e x1 ⟨rfl, hM1, hx1⟩
  have hS1 := U6.next hS hx1
  refine ⟨hS1, ?_⟩
  refine step1H 7 _ rfl (by kernel_rfl) (by rfl) ?_
  go_simp
  refine (edgeNumbers_any eo m ecap L H hm wfE _ (hr.below hS1.bel (Nat.le_refl _)).eds).mono ?_
  rintro e x2 ⟨rfl, hM2, hx2⟩
  have hS2 := U6.next hS1 hx2
  refine ⟨hS2, ?_⟩
  refine takeH 8 (some 15) (.agg #[.int .i64 p, .slice ao n cap, .slice po k pcap, .slice eo m ecap, .slice uo m ucap, .slice vo m vcap, .map (some (W.heap.size + 1)), .map (some x1.heap.size)]) rfl rfl (by kernel_rfl) (by kernel_rfl) (by kernel_rfl) (fun _ _ _ h => h) (by rfl) hS2 (fun w hSw => by have y0 := hSw.g0; have y1 := hSw.g1; have y2 := hSw.h0; have y3 := hSw.h1; have y4 := hSw.m0; have y5 := hSw.m1; go_split_ands; go_simp <;> first | rfl | omega | (intro h; exfalso; omega)) ?_
  simp only [Act.put, List.setIfInBounds_toArray, List.set_cons_zero, List.set_cons_succ]
  have hRl := R.lt
  have hx1s := hx1.size
  have hne1 : W.heap.size + 1 ≠ w.heap.size + 1 + 1 + 1 := by omega
  have hne2 : x1.heap.size ≠ w.heap.size + 1 + 1 + 1 := by omega
  replace R := (R.next hx1).next hx2
  have r0 := R.cell (j := 0) (by omega)
  have r1 := R.cell (j := 1) (by omega)
  have r2 := R.cell (j := 2) (by omega)
  have r3 := R.cell (j := 3) (by omega)
  have r4 := R.cell (j := 4) (by omega)
  have r5 := R.cell (j := 5) (by omega)
  have r6 := R.cell (j := 6) (by omega)
  have r7 := R.cell (j := 7) (by omega)
  simp only [gd8] at r0 r1 r2 r3 r4 r5 r6 r7
  have zz := fun j => R.frozen j
  refine step1H 9 _ rfl (by kernel_rfl) (by rfl) ?_
  go_simp
  have hst := (((((((((Below.refl (w.heap.size + 3) x2).setCell (p := ⟨w.heap.size + 1 + 1 + 1, 0, none⟩) (Nat.le_refl _) (.int .i64 p)).setCell (p := ⟨w.heap.size + 1 + 1 + 1, 1, none⟩) (Nat.le_refl _) (.slice ao n cap)).setCell (p := ⟨w.heap.size + 1 + 1 + 1, 2, none⟩) (Nat.le_refl _) (.slice po k pcap)).setCell (p := ⟨w.heap.size + 1 + 1 + 1, 3, none⟩) (Nat.le_refl _) (.slice eo m ecap)).setCell (p := ⟨w.heap.size + 1 + 1 + 1, 4, none⟩) (Nat.le_refl _) (.slice uo m ucap)).setCell (p := ⟨w.heap.size + 1 + 1 + 1, 5, none⟩) (Nat.le_refl _) (.slice vo m vcap)).setCell (p := ⟨w.heap.size + 1 + 1 + 1, 6, none⟩) (Nat.le_refl _) (.map (some (W.heap.size + 1)))).setCell (p := ⟨w.heap.size + 1 + 1 + 1, 7, none⟩) (Nat.le_refl _) (.map (some x1.heap.size)))
  have uR := ((((((((R.set 0 (.int .i64 p)).set 1 (.slice ao n cap)).set 2 (.slice po k pcap)).set 3 (.slice eo m ecap)).set 4 (.slice uo m ucap)).set 5 (.slice vo m vcap)).set 6 (.map (some (W.heap.size + 1)))).set 7 (.map (some x1.heap.size)))
  have q0 := uR.cell (j := 0) (by omega)
  have q1 := uR.cell (j := 1) (by omega)
  have q2 := uR.cell (j := 2) (by omega)
  have q3 := uR.cell (j := 3) (by omega)
  have q4 := uR.cell (j := 4) (by omega)
  have q5 := uR.cell (j := 5) (by omega)
  have q6 := uR.cell (j := 6) (by omega)
  have q7 := uR.cell (j := 7) (by omega)
  simp at q0 q1 q2 q3 q4 q5 q6 q7
  have hS3 := hS2.far hst
  refine ⟨hS3, ?_⟩
  refine wpAnyH_done (by kernel_rfl) ?_ _
  clear r0 r1 r2 r3 r4 r5 r6 r7 zz
  go_wp2
  exact bodyPost_ret (v := .agg #[.int .i64 p, .slice ao n cap, .slice po k pcap, .slice eo m ecap, .slice uo m ucap, .slice vo m vcap, .map (some (W.heap.size + 1)), .map (some x1.heap.size)]) (by simp [results, Try.results62, go_sem, q0, q1, q2, q3, q4, q5, q6, q7]) rfl ⟨_, _, rfl, ⟨hr.below hS3.bel (Nat.le_refl _), ownsMap_block (ownsMap_below hM1 hx2) (by repeat rw [Below.heap_setCell _ _ _ _ (by simpa using hne1)]), ownsMap_block hM2 (by repeat rw [Below.heap_setCell _ _ _ _ (by simpa using hne2)])⟩, hS3.bel⟩
/-- The canonical net of a map and an order. -/
def cn (p : Int) (n : Nat) (F T G P : Nat → Int) : Net := (netOf n F T G P (lstF p n F T P).length (Lf (lstF p n F T P)) (Hf (lstF p n F T P)) (cusT p n F T G P).1 (cusT p n F T G P).2)
/-- Is there a way to tell: the metric is customized, the edge is there and not Far. -/
def UnY (p : Int) (n : Nat) (F T G : Nat → Int) (k : Nat) (P : Nat → Int) (m : Nat) (L H : Nat → Int) (u : Nat) (U : Nat → Int) (v : Nat) (V : Nat → Int) (a c : Int) (up : Bool) : Prop :=
  IsC p n F T G k P m L H u U v V ∧ hsB (lstF p n F T P).length (Lf (lstF p n F T P)) (Hf (lstF p n F T P)) a c = true ∧ (cn p n F T G P).wt a.toNat c.toNat up ≠ 1000000000000
open Classical in
noncomputable def unL (p : Int) (n : Nat) (F T G : Nat → Int) (k : Nat) (P : Nat → Int) (m : Nat) (L H : Nat → Int) (u : Nat) (U : Nat → Int) (v : Nat) (V : Nat → Int) (a c : Int) (up : Bool) : List Int :=
  if UnY p n F T G k P m L H u U v V a c up then P (frR a.toNat c.toNat up) :: (cn p n F T G P).wy a.toNat c.toNat up else []
/-- An answered list of one's own, or none. -/
def LAns (w w' : World) (e : Ending) (l : List Int) : Prop := ∃ ao cap, e = .returned (.slice ao l.length cap) ∧ (0 < l.length → ∃ g, ao = some ⟨g, 0, none⟩ ∧ w.heap.size ≤ g ∧ LOwn w' w.heap.size (some ⟨g, 0, none⟩) cap l) ∧ Below w.heap.size w w'
theorem lans_none {w w' : World} {ao : Option Addr} {cap : Nat} (hb : Below w.heap.size w w') : LAns w w' (.returned (.slice ao 0 cap)) [] := ⟨ao, cap, rfl, fun h => by simp at h, hb⟩

set_option maxRecDepth 100000 in
set_option maxHeartbeats 4000000 in
theorem implUnpack_any (p : Int) (ao : Option Addr) (n cap : Nat) (F T G : Nat → Int) (po : Option Addr) (k pcap : Nat) (P : Nat → Int) (eo : Option Addr) (m ecap : Nat) (L H : Nat → Int) (uo : Option Addr) (u ucap : Nat) (U : Nat → Int) (vo : Option Addr) (v vcap : Nat) (V : Nat → Int) (a c : Int) (wa : (Lit.int .i64 a).wf = true) (wc : (Lit.int .i64 c).wf = true) (up : Bool) (hn : n ≤ 1048576) (hk : k ≤ 1048576) (hm : m ≤ 1048576) (hu : u ≤ 1048576) (hv : v ≤ 1048576) (w : World) (hr : Row w ao n F T G) (hp : IRow w po k P) (he : ERow w eo m L H) (hU : IRow w uo u U) (hV : IRow w vo v V) :
    Calls Try.prog 27 #[.agg #[.int .i64 p, .slice ao n cap], .agg #[.slice po k pcap, .slice eo m ecap], .agg #[.slice uo u ucap, .slice vo v vcap], .int .i64 a, .int .i64 c, .bool up] w fun e w' => LAns w w' e (unL p n F T G k P m L H u U v V a c up) := by
  have B0 := u6_new w (p := p) (ao := ao) (n := n) (cap := cap) (po := po) (k := k) (pcap := pcap) (eo := eo) (m := m) (ecap := ecap) (uo := uo) (u := u) (ucap := ucap) (vo := vo) (v := v) (vcap := vcap)
  have HI := fun W h1 h2 h3 h4 h5 => isCustomized_any p ao n cap F T G po k pcap P eo m ecap L H uo u ucap U vo v vcap V hn hk hm hu hv W h1 h2 h3 h4 h5
  by_cases hC : IsC p n F T G k P m L H u U v V
  rotate_left
  · have hl : unL p n F T G k P m L H u U v V a c up = [] := by unfold unL; rw [if_neg (fun h => hC h.1)]
    rw [hl]
    go_enter Try.func27, Try.ntmps27
    go_wp2_with fail
    refine (HI _ (hr.below B0.bel (Nat.le_refl _)) (hp.below B0.bel (Nat.le_refl _)) (he.below B0.bel (Nat.le_refl _)) (hU.below B0.bel (Nat.le_refl _)) (hV.below B0.bel (Nat.le_refl _))).mono ?_
    rintro e w1 ⟨⟨b, rfl, hb⟩, hb1⟩
    obtain rfl : b = false := by cases b <;> simp_all
    have B1 := B0.next hb1
    go_wp2
    go_ret
    exact lans_none (B1.bel.alloc B1.bel.size _)
  obtain ⟨hH, hsU, hsV⟩ := hC
  obtain ⟨hlen, heq⟩ := hok_len hH
  have hun : unL p n F T G k P m L H u U v V a c up = unL p n F T G k P m L H u U v V a c up := rfl
  have hC : IsC p n F T G k P m L H u U v V := ⟨hH, hsU, hsV⟩
  have he2 : ERow w eo m (Lf (lstF p n F T P)) (Hf (lstF p n F T P)) := he.congr (fun i hi => (heq i hi).1) (fun i hi => (heq i hi).2)
  obtain ⟨rfl, hsU2⟩ := hsU
  obtain ⟨rfl, hsV2⟩ := hsV
  have hU2 : IRow w uo m (cusT p n F T G P).1 := fun j hj => by
    obtain ⟨b, o, e, h⟩ := hU j hj
    exact ⟨b, o, e, by rw [hsU2 j hj]; exact h⟩
  have hV2 : IRow w vo m (cusT p n F T G P).2 := fun j hj => by
    obtain ⟨b, o, e, h⟩ := hV j hj
    exact ⟨b, o, e, by rw [hsV2 j hj]; exact h⟩
  have D := gd_can hH.1
  rw [← hlen] at D
  have hul : unL p n F T G k P m L H m U m V a c up = if hsB m (Lf (lstF p n F T P)) (Hf (lstF p n F T P)) a c = true ∧ (cn p n F T G P).wt a.toNat c.toNat up ≠ 1000000000000 then P (frR a.toNat c.toNat up) :: (cn p n F T G P).wy a.toNat c.toNat up else [] := by
    unfold unL UnY
    rw [← hlen]
    by_cases h : hsB m (Lf (lstF p n F T P)) (Hf (lstF p n F T P)) a c = true ∧ (cn p n F T G P).wt a.toNat c.toNat up ≠ 1000000000000
    · rw [if_pos h, if_pos ⟨hC, h⟩]
    · rw [if_neg h, if_neg (fun x => h x.2)]
  have HUL : True := trivial
  rw [hul]
  have hcn : cn p n F T G P = netOf n F T G P m (Lf (lstF p n F T P)) (Hf (lstF p n F T P)) (cusT p n F T G P).1 (cusT p n F T G P).2 := by unfold cn; rw [← hlen]
  rw [hcn]
  have HCC : Hid (IsC p n F T G k P m L H m U m V) := hC
  clear hcn hul hun hC hsU2 hsV2 heq hH hlen
  generalize (cusT p n F T G P).1 = Uc at hU2 D ⊢
  generalize (cusT p n F T G P).2 = Vc at hV2 D ⊢
  generalize Lf (lstF p n F T P) = Lc at he2 D ⊢
  generalize Hf (lstF p n F T P) = Hc at he2 D ⊢
  have hNR : NRows w ao n F T G po k P eo m Lc Hc uo Uc vo Vc := ⟨hr, hp, he2, hU2, hV2⟩
  obtain ⟨q, hq⟩ := D.q
  obtain ⟨n1, n2⟩ := enums_net hq D.wfE wa wc
  generalize hX0 : litI ((enums Lc Hc m).atKey (ekl a c) (.lit (.int .i64 0))) = X1 at n2
  have hwtE : ∀ j, fnd Lc Hc a c m = j → 0 ≤ a → 0 ≤ c → (netOf n F T G P m Lc Hc Uc Vc).wt a.toNat c.toNat up = if up = true then Uc j else Vc j := fun j hj h0 h1 => by
    simp only [Net.wt, netOf]
    rw [show ((a.toNat : Nat) : Int) = a by omega, show ((c.toNat : Nat) : Int) = c by omega, hj]
  cases hs : hsB m Lc Hc a c with
  | false =>
    simp only [Bool.false_eq_true, false_and, if_false]
    go_enter Try.func27, Try.ntmps27
    go_wp2_with fail
    refine (HI _ (hr.below B0.bel (Nat.le_refl _)) (hp.below B0.bel (Nat.le_refl _)) (he.below B0.bel (Nat.le_refl _)) (hU.below B0.bel (Nat.le_refl _)) (hV.below B0.bel (Nat.le_refl _))).mono ?_
    rintro e w1 ⟨⟨b, rfl, hb⟩, hb1⟩
    obtain rfl : b = true := hb.2 HCC.out
    have B1 := B0.next hb1
    clear B0 HI
    have y0 := B1.g0
    have y1 := B1.g1
    have y2 := B1.h0
    have y3 := B1.h1
    have y4 := B1.m0
    have y5 := B1.m1
    go_wp2_with fail
    refine (newGuide_any p ao n cap F T G po k pcap P eo m ecap Lc Hc uo ucap Uc vo vcap Vc hn hm D.wfA D.wfE _ (hNR.below B1.bel (Nat.le_refl _))).mono ?_
    rintro e w2 ⟨ma, me, rfl, hG2, hb2⟩
    have B2 := B1.next hb2
    have HZ0 : Hid (w1.cell? ⟨w.heap.size + 1, 0, none⟩ = some (.slice po k pcap)) := B1.h0
    clear B1 y0 y1 y2 y3 y4 y5
    have HQ : Hid ((w2.alloc (.cells #[.int .i64 0, .slice none 0 0, .slice none 0 0, .slice none 0 0, .slice none 0 0, .slice none 0 0, .map none, .map none] 86)).heap[w2.heap.size]? = some (.cells #[.int .i64 0, .slice none 0 0, .slice none 0 0, .slice none 0 0, .slice none 0 0, .slice none 0 0, .map none, .map none] 86 (0, 0))) := heap_alloc_new w2 _
    have HX : Hid (Below w2.heap.size w2 ((w2.alloc (.cells #[.int .i64 0, .slice none 0 0, .slice none 0 0, .slice none 0 0, .slice none 0 0, .slice none 0 0, .map none, .map none] 86)).setRow w2.heap.size #[.int .i64 p, .slice ao n cap, .slice po k pcap, .slice eo m ecap, .slice uo m ucap, .slice vo m vcap, .map (some ma), .map (some me)]) ∧ ((w2.alloc (.cells #[.int .i64 0, .slice none 0 0, .slice none 0 0, .slice none 0 0, .slice none 0 0, .slice none 0 0, .map none, .map none] 86)).setRow w2.heap.size #[.int .i64 p, .slice ao n cap, .slice po k pcap, .slice eo m ecap, .slice uo m ucap, .slice vo m vcap, .map (some ma), .map (some me)]).heap[w2.heap.size]? = some (.cells #[.int .i64 p, .slice ao n cap, .slice po k pcap, .slice eo m ecap, .slice uo m ucap, .slice vo m vcap, .map (some ma), .map (some me)] 86 (0, 0))) := ⟨setRowB ((Below.refl _ _).alloc (Nat.le_refl _) _) (Nat.le_refl _) _, setRow_heap _ _ _ _ _ _ HQ.out⟩
    go_wp2_with (first | (refine wpList_store_row rfl 86 (.tmp 13) (.tmp 28) rfl w2.heap.size #[.int .i64 p, .slice ao n cap, .slice po k pcap, .slice eo m ecap, .slice uo m ucap, .slice vo m vcap, .map (some ma), .map (some me)] rfl rfl 86 #[.int .i64 0, .slice none 0 0, .slice none 0 0, .slice none 0 0, .slice none 0 0, .slice none 0 0, .map none, .map none] HQ.out Try.infoGuide rfl (by simp [Value.oneCell']) ?_; generalize hX : World.setRow _ _ _ = X; have HX' : Below w2.heap.size w2 X ∧ X.heap[w2.heap.size]? = some (.cells #[.int .i64 p, .slice ao n cap, .slice po k pcap, .slice eo m ecap, .slice uo m ucap, .slice vo m vcap, .map (some ma), .map (some me)] 86 (0, 0)) := (by rw [← hX]; exact HX.out); clear hX; obtain ⟨hX1, hX2⟩ := HX'; have q0 : X.cell? ⟨w2.heap.size, 0, none⟩ = some (.int .i64 p) := (by simp [World.cell?, hX2]); have q1 : X.cell? ⟨w2.heap.size, 1, none⟩ = some (.slice ao n cap) := (by simp [World.cell?, hX2]); have q2 : X.cell? ⟨w2.heap.size, 2, none⟩ = some (.slice po k pcap) := (by simp [World.cell?, hX2]); have q3 : X.cell? ⟨w2.heap.size, 3, none⟩ = some (.slice eo m ecap) := (by simp [World.cell?, hX2]); have q4 : X.cell? ⟨w2.heap.size, 4, none⟩ = some (.slice uo m ucap) := (by simp [World.cell?, hX2]); have q5 : X.cell? ⟨w2.heap.size, 5, none⟩ = some (.slice vo m vcap) := (by simp [World.cell?, hX2]); have q6 : X.cell? ⟨w2.heap.size, 6, none⟩ = some (.map (some ma)) := (by simp [World.cell?, hX2]); have q7 : X.cell? ⟨w2.heap.size, 7, none⟩ = some (.map (some me)) := (by simp [World.cell?, hX2]); have k1 := look_edges0 (hG2.next hX1).em wa wc; rw [n1, hs, hX0] at k1; clear n1 n2 hX0 hs hq hwtE hX2 hb HQ HX) | fail)
    have hXA : Below w.heap.size w X := below_next B2.bel (Nat.le_refl _) hX1
    go_ret
    exact lans_none (hXA.alloc hXA.size _)
  | true =>
    obtain ⟨hj1, hj0⟩ := n2 hs
    have hat := fnd_at m (hsB_iff.1 hs)
    have hed := D.ed _ hj0
    rw [hat.2.1, hat.2.2] at hed
    obtain ⟨j, hj⟩ : ∃ j, fnd Lc Hc a c m = j := ⟨_, rfl⟩
    have hwt := hwtE j hj hed.1 (by omega)
    rw [hj] at hj0 hj1
    subst hj1
    by_cases hfar : (if up = true then Uc j else Vc j) = 1000000000000
    · have hwf : ¬ (True ∧ (netOf n F T G P m Lc Hc Uc Vc).wt a.toNat c.toNat up ≠ 1000000000000) := fun h => h.2 (hwt.trans hfar)
      simp only [hwf, if_false]
      go_enter Try.func27, Try.ntmps27
      go_wp2_with fail
      refine (HI _ (hr.below B0.bel (Nat.le_refl _)) (hp.below B0.bel (Nat.le_refl _)) (he.below B0.bel (Nat.le_refl _)) (hU.below B0.bel (Nat.le_refl _)) (hV.below B0.bel (Nat.le_refl _))).mono ?_
      rintro e w1 ⟨⟨b, rfl, hb⟩, hb1⟩
      obtain rfl : b = true := hb.2 HCC.out
      have B1 := B0.next hb1
      clear B0 HI
      have y0 := B1.g0
      have y1 := B1.g1
      have y2 := B1.h0
      have y3 := B1.h1
      have y4 := B1.m0
      have y5 := B1.m1
      go_wp2_with fail
      refine (newGuide_any p ao n cap F T G po k pcap P eo m ecap Lc Hc uo ucap Uc vo vcap Vc hn hm D.wfA D.wfE _ (hNR.below B1.bel (Nat.le_refl _))).mono ?_
      rintro e w2 ⟨ma, me, rfl, hG2, hb2⟩
      have B2 := B1.next hb2
      have HZ0 : Hid (w1.cell? ⟨w.heap.size + 1, 0, none⟩ = some (.slice po k pcap)) := B1.h0
      clear B1 y0 y1 y2 y3 y4 y5
      have HQ : Hid ((w2.alloc (.cells #[.int .i64 0, .slice none 0 0, .slice none 0 0, .slice none 0 0, .slice none 0 0, .slice none 0 0, .map none, .map none] 86)).heap[w2.heap.size]? = some (.cells #[.int .i64 0, .slice none 0 0, .slice none 0 0, .slice none 0 0, .slice none 0 0, .slice none 0 0, .map none, .map none] 86 (0, 0))) := heap_alloc_new w2 _
      have HX : Hid (Below w2.heap.size w2 ((w2.alloc (.cells #[.int .i64 0, .slice none 0 0, .slice none 0 0, .slice none 0 0, .slice none 0 0, .slice none 0 0, .map none, .map none] 86)).setRow w2.heap.size #[.int .i64 p, .slice ao n cap, .slice po k pcap, .slice eo m ecap, .slice uo m ucap, .slice vo m vcap, .map (some ma), .map (some me)]) ∧ ((w2.alloc (.cells #[.int .i64 0, .slice none 0 0, .slice none 0 0, .slice none 0 0, .slice none 0 0, .slice none 0 0, .map none, .map none] 86)).setRow w2.heap.size #[.int .i64 p, .slice ao n cap, .slice po k pcap, .slice eo m ecap, .slice uo m ucap, .slice vo m vcap, .map (some ma), .map (some me)]).heap[w2.heap.size]? = some (.cells #[.int .i64 p, .slice ao n cap, .slice po k pcap, .slice eo m ecap, .slice uo m ucap, .slice vo m vcap, .map (some ma), .map (some me)] 86 (0, 0))) := ⟨setRowB ((Below.refl _ _).alloc (Nat.le_refl _) _) (Nat.le_refl _) _, setRow_heap _ _ _ _ _ _ HQ.out⟩
      go_wp2_with (first | (refine wpList_store_row rfl 86 (.tmp 13) (.tmp 28) rfl w2.heap.size #[.int .i64 p, .slice ao n cap, .slice po k pcap, .slice eo m ecap, .slice uo m ucap, .slice vo m vcap, .map (some ma), .map (some me)] rfl rfl 86 #[.int .i64 0, .slice none 0 0, .slice none 0 0, .slice none 0 0, .slice none 0 0, .slice none 0 0, .map none, .map none] HQ.out Try.infoGuide rfl (by simp [Value.oneCell']) ?_; generalize hX : World.setRow _ _ _ = X; have HX' : Below w2.heap.size w2 X ∧ X.heap[w2.heap.size]? = some (.cells #[.int .i64 p, .slice ao n cap, .slice po k pcap, .slice eo m ecap, .slice uo m ucap, .slice vo m vcap, .map (some ma), .map (some me)] 86 (0, 0)) := (by rw [← hX]; exact HX.out); clear hX; obtain ⟨hX1, hX2⟩ := HX'; have q0 : X.cell? ⟨w2.heap.size, 0, none⟩ = some (.int .i64 p) := (by simp [World.cell?, hX2]); have q1 : X.cell? ⟨w2.heap.size, 1, none⟩ = some (.slice ao n cap) := (by simp [World.cell?, hX2]); have q2 : X.cell? ⟨w2.heap.size, 2, none⟩ = some (.slice po k pcap) := (by simp [World.cell?, hX2]); have q3 : X.cell? ⟨w2.heap.size, 3, none⟩ = some (.slice eo m ecap) := (by simp [World.cell?, hX2]); have q4 : X.cell? ⟨w2.heap.size, 4, none⟩ = some (.slice uo m ucap) := (by simp [World.cell?, hX2]); have q5 : X.cell? ⟨w2.heap.size, 5, none⟩ = some (.slice vo m vcap) := (by simp [World.cell?, hX2]); have q6 : X.cell? ⟨w2.heap.size, 6, none⟩ = some (.map (some ma)) := (by simp [World.cell?, hX2]); have q7 : X.cell? ⟨w2.heap.size, 7, none⟩ = some (.map (some me)) := (by simp [World.cell?, hX2]); have k1 := look_edges0 (hG2.next hX1).em wa wc; rw [n1, hs, hX0] at k1; clear n1 n2 hX0 hs hq hwtE hX2 hb HQ HX) | fail)
      have hXA : Below w.heap.size w X := below_next B2.bel (Nat.le_refl _) hX1
      have l1 : (0 : Int) ≤ (j : Int) := by omega
      have l2 : (j : Int) < (m : Int) := by omega
      refine (weights_any _ _ _ _ _ _ _ _ _ _ _ _ _ _ _ _ up _).mono ?_
      rintro e w4 ⟨rfl, hb4⟩
      have hXB := below_next hXA (Nat.le_refl _) hb4
      have hNX := hNR.below hXB (Nat.le_refl _)
      replace q0 := keep_cell hb4 (Nat.le_refl _) q0
      replace q1 := keep_cell hb4 (Nat.le_refl _) q1
      replace q2 := keep_cell hb4 (Nat.le_refl _) q2
      replace q3 := keep_cell hb4 (Nat.le_refl _) q3
      replace q4 := keep_cell hb4 (Nat.le_refl _) q4
      replace q5 := keep_cell hb4 (Nat.le_refl _) q5
      replace q6 := keep_cell hb4 (Nat.le_refl _) q6
      replace q7 := keep_cell hb4 (Nat.le_refl _) q7
      cases up
      · simp only [if_true, if_false, Bool.false_eq_true] at hfar ⊢
        obtain ⟨b5, o5, rfl, d5⟩ := hNX.dn j hj0
        go_wp2_with fail
        go_ret
        exact lans_none (hXB.alloc hXB.size _)
      · simp only [if_true, if_false, Bool.false_eq_true] at hfar ⊢
        obtain ⟨b5, o5, rfl, d5⟩ := hNX.up j hj0
        go_wp2_with fail
        go_ret
        exact lans_none (hXB.alloc hXB.size _)
    · have hwf : (True ∧ (netOf n F T G P m Lc Hc Uc Vc).wt a.toNat c.toNat up ≠ 1000000000000) := ⟨trivial, fun h => hfar (hwt.symm.trans h)⟩
      simp only [hwf, if_true, ne_eq, not_false_eq_true, and_self]
      go_enter Try.func27, Try.ntmps27
      go_wp2_with fail
      refine (HI _ (hr.below B0.bel (Nat.le_refl _)) (hp.below B0.bel (Nat.le_refl _)) (he.below B0.bel (Nat.le_refl _)) (hU.below B0.bel (Nat.le_refl _)) (hV.below B0.bel (Nat.le_refl _))).mono ?_
      rintro e w1 ⟨⟨b, rfl, hb⟩, hb1⟩
      obtain rfl : b = true := hb.2 HCC.out
      have B1 := B0.next hb1
      clear B0 HI
      have y0 := B1.g0
      have y1 := B1.g1
      have y2 := B1.h0
      have y3 := B1.h1
      have y4 := B1.m0
      have y5 := B1.m1
      go_wp2_with fail
      refine (newGuide_any p ao n cap F T G po k pcap P eo m ecap Lc Hc uo ucap Uc vo vcap Vc hn hm D.wfA D.wfE _ (hNR.below B1.bel (Nat.le_refl _))).mono ?_
      rintro e w2 ⟨ma, me, rfl, hG2, hb2⟩
      have B2 := B1.next hb2
      have HZ0 : Hid (w1.cell? ⟨w.heap.size + 1, 0, none⟩ = some (.slice po k pcap)) := B1.h0
      clear B1 y0 y1 y2 y3 y4 y5
      have HQ : Hid ((w2.alloc (.cells #[.int .i64 0, .slice none 0 0, .slice none 0 0, .slice none 0 0, .slice none 0 0, .slice none 0 0, .map none, .map none] 86)).heap[w2.heap.size]? = some (.cells #[.int .i64 0, .slice none 0 0, .slice none 0 0, .slice none 0 0, .slice none 0 0, .slice none 0 0, .map none, .map none] 86 (0, 0))) := heap_alloc_new w2 _
      have HX : Hid (Below w2.heap.size w2 ((w2.alloc (.cells #[.int .i64 0, .slice none 0 0, .slice none 0 0, .slice none 0 0, .slice none 0 0, .slice none 0 0, .map none, .map none] 86)).setRow w2.heap.size #[.int .i64 p, .slice ao n cap, .slice po k pcap, .slice eo m ecap, .slice uo m ucap, .slice vo m vcap, .map (some ma), .map (some me)]) ∧ ((w2.alloc (.cells #[.int .i64 0, .slice none 0 0, .slice none 0 0, .slice none 0 0, .slice none 0 0, .slice none 0 0, .map none, .map none] 86)).setRow w2.heap.size #[.int .i64 p, .slice ao n cap, .slice po k pcap, .slice eo m ecap, .slice uo m ucap, .slice vo m vcap, .map (some ma), .map (some me)]).heap[w2.heap.size]? = some (.cells #[.int .i64 p, .slice ao n cap, .slice po k pcap, .slice eo m ecap, .slice uo m ucap, .slice vo m vcap, .map (some ma), .map (some me)] 86 (0, 0))) := ⟨setRowB ((Below.refl _ _).alloc (Nat.le_refl _) _) (Nat.le_refl _) _, setRow_heap _ _ _ _ _ _ HQ.out⟩
      go_wp2_with (first | (refine wpList_store_row rfl 86 (.tmp 13) (.tmp 28) rfl w2.heap.size #[.int .i64 p, .slice ao n cap, .slice po k pcap, .slice eo m ecap, .slice uo m ucap, .slice vo m vcap, .map (some ma), .map (some me)] rfl rfl 86 #[.int .i64 0, .slice none 0 0, .slice none 0 0, .slice none 0 0, .slice none 0 0, .slice none 0 0, .map none, .map none] HQ.out Try.infoGuide rfl (by simp [Value.oneCell']) ?_; generalize hX : World.setRow _ _ _ = X; have HX' : Below w2.heap.size w2 X ∧ X.heap[w2.heap.size]? = some (.cells #[.int .i64 p, .slice ao n cap, .slice po k pcap, .slice eo m ecap, .slice uo m ucap, .slice vo m vcap, .map (some ma), .map (some me)] 86 (0, 0)) := (by rw [← hX]; exact HX.out); clear hX; obtain ⟨hX1, hX2⟩ := HX'; have q0 : X.cell? ⟨w2.heap.size, 0, none⟩ = some (.int .i64 p) := (by simp [World.cell?, hX2]); have q1 : X.cell? ⟨w2.heap.size, 1, none⟩ = some (.slice ao n cap) := (by simp [World.cell?, hX2]); have q2 : X.cell? ⟨w2.heap.size, 2, none⟩ = some (.slice po k pcap) := (by simp [World.cell?, hX2]); have q3 : X.cell? ⟨w2.heap.size, 3, none⟩ = some (.slice eo m ecap) := (by simp [World.cell?, hX2]); have q4 : X.cell? ⟨w2.heap.size, 4, none⟩ = some (.slice uo m ucap) := (by simp [World.cell?, hX2]); have q5 : X.cell? ⟨w2.heap.size, 5, none⟩ = some (.slice vo m vcap) := (by simp [World.cell?, hX2]); have q6 : X.cell? ⟨w2.heap.size, 6, none⟩ = some (.map (some ma)) := (by simp [World.cell?, hX2]); have q7 : X.cell? ⟨w2.heap.size, 7, none⟩ = some (.map (some me)) := (by simp [World.cell?, hX2]); have k1 := look_edges0 (hG2.next hX1).em wa wc; rw [n1, hs, hX0] at k1; clear n1 n2 hX0 hs hq hwtE hX2 hb HQ HX) | fail)
      have hXA : Below w.heap.size w X := below_next B2.bel (Nat.le_refl _) hX1
      have l1 : (0 : Int) ≤ (j : Int) := by omega
      have l2 : (j : Int) < (m : Int) := by omega
      refine (weights_any _ _ _ _ _ _ _ _ _ _ _ _ _ _ _ _ up _).mono ?_
      rintro e w4 ⟨rfl, hb4⟩
      have hXB := below_next hXA (Nat.le_refl _) hb4
      have hNX := hNR.below hXB (Nat.le_refl _)
      replace q0 := keep_cell hb4 (Nat.le_refl _) q0
      replace q1 := keep_cell hb4 (Nat.le_refl _) q1
      replace q2 := keep_cell hb4 (Nat.le_refl _) q2
      replace q3 := keep_cell hb4 (Nat.le_refl _) q3
      replace q4 := keep_cell hb4 (Nat.le_refl _) q4
      replace q5 := keep_cell hb4 (Nat.le_refl _) q5
      replace q6 := keep_cell hb4 (Nat.le_refl _) q6
      replace q7 := keep_cell hb4 (Nat.le_refl _) q7
      cases up
      · simp only [if_true, if_false, Bool.false_eq_true] at hfar ⊢
        obtain ⟨b5, o5, rfl, d5⟩ := hNX.dn j hj0
        have hA5 : Below w4.heap.size w4 (w4.alloc (.cells #[.int .i64 (j : Int), .bool false] 91)) := (Below.refl _ _).alloc (Nat.le_refl _) _
        have s0 : (w4.alloc (.cells #[.int .i64 (j : Int), .bool false] 91)).cell? ⟨w4.heap.size, 0, none⟩ = some (.int .i64 (j : Int)) := by simp [go_sem]
        have s1 : (w4.alloc (.cells #[.int .i64 (j : Int), .bool false] 91)).cell? ⟨w4.heap.size, 1, none⟩ = some (.bool false) := by simp [go_sem]
        have hz0 := keep_cell (below_next (below_next (below_next (Below.refl _ _) (Nat.le_refl _) hb2) (Nat.le_refl _) hX1) (Nat.le_refl _) hb4) (Nat.le_refl _) HZ0.out
        replace q0 := keep_cell hA5 (Nat.le_refl _) q0
        replace q1 := keep_cell hA5 (Nat.le_refl _) q1
        replace q2 := keep_cell hA5 (Nat.le_refl _) q2
        replace q3 := keep_cell hA5 (Nat.le_refl _) q3
        replace q4 := keep_cell hA5 (Nat.le_refl _) q4
        replace q5 := keep_cell hA5 (Nat.le_refl _) q5
        replace q6 := keep_cell hA5 (Nat.le_refl _) q6
        replace q7 := keep_cell hA5 (Nat.le_refl _) q7
        replace hz0 := keep_cell hA5 (Nat.le_refl _) hz0
        have hXC := below_next hXB (Nat.le_refl _) hA5
        have hG5 := (hG2.next hX1).next (below_next hb4 (Nat.le_refl _) hA5)
        clear hXB hNX
        go_wp2_with fail
        generalize (w4.alloc (.cells #[.int .i64 (j : Int), .bool false] 91)) = W5 at hA5 s0 s1 hz0 q0 q1 q2 q3 q4 q5 q6 q7 hXC hG5 ⊢
        refine (ranks_any _ _ _ _ _ _ _ _ _ _ _ _ _ _ _ _ Lc Hc j false hj0 D.hm _ hG5.rows.eds).mono ?_
        simp only [if_true, if_false, Bool.false_eq_true]
        rintro e w6 ⟨rfl, hb6⟩
        have hXD := below_next hXC (Nat.le_refl _) hb6
        have hG6 := hG5.next hb6
        replace hz0 := keep_cell hb6 (Nat.le_refl _) hz0
        replace s0 := keep_cell hb6 (Nat.le_refl _) s0
        replace s1 := keep_cell hb6 (Nat.le_refl _) s1
        replace q0 := keep_cell hb6 (Nat.le_refl _) q0
        replace q1 := keep_cell hb6 (Nat.le_refl _) q1
        replace q2 := keep_cell hb6 (Nat.le_refl _) q2
        replace q3 := keep_cell hb6 (Nat.le_refl _) q3
        replace q4 := keep_cell hb6 (Nat.le_refl _) q4
        replace q5 := keep_cell hb6 (Nat.le_refl _) q5
        replace q6 := keep_cell hb6 (Nat.le_refl _) q6
        replace q7 := keep_cell hb6 (Nat.le_refl _) q7
        clear hXC hG5 hA5 d5
        obtain ⟨fN, hfNe⟩ : ∃ fN, c.toNat = fN := ⟨_, rfl⟩
        have hfN : Hc j = (fN : Int) := by rw [← hj, hat.2.2]; omega
        rw [hfN]
        have hfk : fN < k := by omega
        obtain ⟨bo, oo, rfl, dO⟩ := hG6.rows.ord fN hfk
        have l5 : (0 : Int) ≤ (fN : Int) := by omega
        have l6 : (fN : Int) < (k : Int) := by omega
        go_wp2_with fail
        have hS0 : (fun w' => w'.cell? ⟨w2.heap.size, 0, none⟩ = some (.int .i64 p) ∧ w'.cell? ⟨w2.heap.size, 1, none⟩ = some (.slice ao n cap) ∧ w'.cell? ⟨w2.heap.size, 2, none⟩ = some (.slice (some ⟨bo, oo, none⟩) k pcap) ∧ w'.cell? ⟨w2.heap.size, 3, none⟩ = some (.slice eo m ecap) ∧ w'.cell? ⟨w2.heap.size, 4, none⟩ = some (.slice uo m ucap) ∧ w'.cell? ⟨w2.heap.size, 5, none⟩ = some (.slice (some ⟨b5, o5, none⟩) m vcap) ∧ w'.cell? ⟨w2.heap.size, 6, none⟩ = some (.map (some ma)) ∧ w'.cell? ⟨w2.heap.size, 7, none⟩ = some (.map (some me)) ∧ w'.cell? ⟨w.heap.size + 1, 0, none⟩ = some (.slice (some ⟨bo, oo, none⟩) k pcap) ∧ w'.cell? ⟨w4.heap.size, 0, none⟩ = some (.int .i64 (j : Int)) ∧ w'.cell? ⟨w4.heap.size, 1, none⟩ = some (.bool false) ∧ w'.cell? ⟨bo, oo + fN, none⟩ = some (.int .i64 (P fN))) w6.drew := ⟨q0, q1, q2, q3, q4, q5, q6, q7, hz0, s0, s1, dO⟩
        refine wp_region_held_drew (S := fun w' => w'.cell? ⟨w2.heap.size, 0, none⟩ = some (.int .i64 p) ∧ w'.cell? ⟨w2.heap.size, 1, none⟩ = some (.slice ao n cap) ∧ w'.cell? ⟨w2.heap.size, 2, none⟩ = some (.slice (some ⟨bo, oo, none⟩) k pcap) ∧ w'.cell? ⟨w2.heap.size, 3, none⟩ = some (.slice eo m ecap) ∧ w'.cell? ⟨w2.heap.size, 4, none⟩ = some (.slice uo m ucap) ∧ w'.cell? ⟨w2.heap.size, 5, none⟩ = some (.slice (some ⟨b5, o5, none⟩) m vcap) ∧ w'.cell? ⟨w2.heap.size, 6, none⟩ = some (.map (some ma)) ∧ w'.cell? ⟨w2.heap.size, 7, none⟩ = some (.map (some me)) ∧ w'.cell? ⟨w.heap.size + 1, 0, none⟩ = some (.slice (some ⟨bo, oo, none⟩) k pcap) ∧ w'.cell? ⟨w4.heap.size, 0, none⟩ = some (.int .i64 (j : Int)) ∧ w'.cell? ⟨w4.heap.size, 1, none⟩ = some (.bool false) ∧ w'.cell? ⟨bo, oo + fN, none⟩ = some (.int .i64 (P fN))) (by kernel_rfl) hS0 (fun hS => ?_)
        refine takeH 0 (some 59) (.agg #[.int .i64 p, .slice ao n cap, .slice (some ⟨bo, oo, none⟩) k pcap, .slice eo m ecap, .slice uo m ucap, .slice (some ⟨b5, o5, none⟩) m vcap, .map (some ma), .map (some me)]) rfl rfl (by kernel_rfl) (by kernel_rfl) (by kernel_rfl) (fun _ _ _ h => h) (by rfl) hS (fun w' hSw => by go_split_ands; go_simp) ?_
        simp only [Act.put, List.setIfInBounds_toArray, List.set_cons_zero, List.set_cons_succ]
        refine takeH 1 (some 60) (.pointer (some ⟨w.heap.size + 1, 0, none⟩)) rfl rfl (by kernel_rfl) (by kernel_rfl) (by kernel_rfl) (fun _ _ _ h => h) (by rfl) hS (fun w' hSw => by go_split_ands; go_simp) ?_
        simp only [Act.put, List.setIfInBounds_toArray, List.set_cons_zero, List.set_cons_succ]
        refine takeH 2 (some 61) (.slice (some ⟨bo, oo, none⟩) k pcap) rfl rfl (by kernel_rfl) (by kernel_rfl) (by kernel_rfl) (fun _ _ _ h => h) (by rfl) hS (fun w' hSw => by go_split_ands; go_simp) ?_
        simp only [Act.put, List.setIfInBounds_toArray, List.set_cons_zero, List.set_cons_succ]
        refine takeH 3 (some 62) (.int .i64 (fN : Int)) rfl rfl (by kernel_rfl) (by kernel_rfl) (by kernel_rfl) (fun _ _ _ h => h) (by rfl) hS (fun w' hSw => by go_split_ands; go_simp) ?_
        simp only [Act.put, List.setIfInBounds_toArray, List.set_cons_zero, List.set_cons_succ]
        refine takeH 4 (some 63) (.pointer (some ⟨bo, oo + fN, none⟩)) rfl rfl (by kernel_rfl) (by kernel_rfl) (by kernel_rfl) (fun _ _ _ h => h) (by rfl) hS (fun w' hSw => by go_split_ands; go_simp) ?_
        simp only [Act.put, List.setIfInBounds_toArray, List.set_cons_zero, List.set_cons_succ]
        refine takeH 5 (some 64) (.int .i64 (P fN)) rfl rfl (by kernel_rfl) (by kernel_rfl) (by kernel_rfl) (fun _ _ _ h => h) (by rfl) hS (fun w' hSw => by go_split_ands; go_simp) ?_
        simp only [Act.put, List.setIfInBounds_toArray, List.set_cons_zero, List.set_cons_succ]
        refine takeH 6 (some 65) (.agg #[.int .i64 (j : Int), .bool false]) rfl rfl (by kernel_rfl) (by kernel_rfl) (by kernel_rfl) (fun _ _ _ h => h) (by rfl) hS (fun w' hSw => by go_split_ands; go_simp) ?_
        simp only [Act.put, List.setIfInBounds_toArray, List.set_cons_zero, List.set_cons_succ]
        refine step1H 7 _ rfl (by kernel_rfl) (by rfl) ?_
        go_simp
        have hA7 : Below w6.heap.size w6 (w6.drew.alloc (.cells #[.int .i64 (j : Int), .bool false] 91)) := ((Below.refl _ _).drew).alloc (Nat.le_refl _) _
        have hS1 : (fun w' => w'.cell? ⟨w2.heap.size, 0, none⟩ = some (.int .i64 p) ∧ w'.cell? ⟨w2.heap.size, 1, none⟩ = some (.slice ao n cap) ∧ w'.cell? ⟨w2.heap.size, 2, none⟩ = some (.slice (some ⟨bo, oo, none⟩) k pcap) ∧ w'.cell? ⟨w2.heap.size, 3, none⟩ = some (.slice eo m ecap) ∧ w'.cell? ⟨w2.heap.size, 4, none⟩ = some (.slice uo m ucap) ∧ w'.cell? ⟨w2.heap.size, 5, none⟩ = some (.slice (some ⟨b5, o5, none⟩) m vcap) ∧ w'.cell? ⟨w2.heap.size, 6, none⟩ = some (.map (some ma)) ∧ w'.cell? ⟨w2.heap.size, 7, none⟩ = some (.map (some me)) ∧ w'.cell? ⟨w.heap.size + 1, 0, none⟩ = some (.slice (some ⟨bo, oo, none⟩) k pcap) ∧ w'.cell? ⟨w4.heap.size, 0, none⟩ = some (.int .i64 (j : Int)) ∧ w'.cell? ⟨w4.heap.size, 1, none⟩ = some (.bool false) ∧ w'.cell? ⟨bo, oo + fN, none⟩ = some (.int .i64 (P fN))) (w6.drew.alloc (.cells #[.int .i64 (j : Int), .bool false] 91)) := ⟨keep_cell hA7 (Nat.le_refl _) q0, keep_cell hA7 (Nat.le_refl _) q1, keep_cell hA7 (Nat.le_refl _) q2, keep_cell hA7 (Nat.le_refl _) q3, keep_cell hA7 (Nat.le_refl _) q4, keep_cell hA7 (Nat.le_refl _) q5, keep_cell hA7 (Nat.le_refl _) q6, keep_cell hA7 (Nat.le_refl _) q7, keep_cell hA7 (Nat.le_refl _) hz0, keep_cell hA7 (Nat.le_refl _) s0, keep_cell hA7 (Nat.le_refl _) s1, keep_cell hA7 (Nat.le_refl _) dO⟩
        have hR7 : SRow (w6.drew.alloc (.cells #[.int .i64 (j : Int), .bool false] 91)) w6.heap.size 0 [(j, false)] := fun i e' u' hi => by
          match i, hi with
          | 0, hi => simp at hi; obtain ⟨rfl, rfl⟩ := hi; exact ⟨by simp [go_sem], by simp [go_sem]⟩
          | i + 1, hi => simp at hi
        refine ⟨hS1, ?_⟩
        have hG7 := hG6.next hA7
        have hXE := below_next hXD (Nat.le_refl _) hA7
        have hsz7 : w6.heap.size < (w6.drew.alloc (.cells #[.int .i64 (j : Int), .bool false] 91)).heap.size := by simp
        have hrst : (netOf n F T G P m Lc Hc Uc Vc).rest ([(j, false)].reverse.map (rkS Lc Hc)) = (netOf n F T G P m Lc Hc Uc Vc).wy a.toNat c.toNat false := by
          simp [Net.rest, rkS]
          rw [← hj, hat.2.1, hat.2.2]
        have hwl := ((netOf n F T G P m Lc Hc Uc Vc).wy_len a.toNat c.toNat false).2
        have hpw : 2 ^ a.toNat ≤ 2 ^ 29 := Nat.pow_le_pow_right (by omega) (by have := D.hk; omega)
        have HU := unpack_any p ao n cap F T G (some ⟨bo, oo, none⟩) k pcap P eo m ecap Lc Hc uo ucap Uc (some ⟨b5, o5, none⟩) vcap Vc ma me D (P fN) w6.heap.size 0 1 [(j, false)] (by rw [hrst]; omega) (fun s hs => by
          simp only [List.mem_singleton] at hs
          subst hs
          refine ⟨hj0, ?_⟩
          have h1 : (Lc j).toNat = a.toNat := by rw [← hj, hat.2.1]
          have h2 : (Hc j).toNat = c.toNat := by rw [← hj, hat.2.2]
          simp only [h1, h2]
          have h3 := hwf.2
          have h4 : (netOf n F T G P m Lc Hc Uc Vc).wt a.toNat c.toNat false ≤ 1000000000000 := by
            rw [hwt]
            simp only [if_true, if_false, Bool.false_eq_true]
            exact (D.dn j hj0).2
          omega) (w6.drew.alloc (.cells #[.int .i64 (j : Int), .bool false] 91)) hG7 hR7 hsz7 (Nat.le_refl _)
        rw [hrst] at HU
        refine step1H 8 _ rfl (by kernel_rfl) (by rfl) ?_
        go_simp
        refine HU.mono ?_
        rintro e w8 ⟨g, gc, rfl, hO8, hb8⟩
        refine ⟨⟨keep_cell hb8 (Nat.le_refl _) hS1.1, keep_cell hb8 (Nat.le_refl _) hS1.2.1, keep_cell hb8 (Nat.le_refl _) hS1.2.2.1, keep_cell hb8 (Nat.le_refl _) hS1.2.2.2.1, keep_cell hb8 (Nat.le_refl _) hS1.2.2.2.2.1, keep_cell hb8 (Nat.le_refl _) hS1.2.2.2.2.2.1, keep_cell hb8 (Nat.le_refl _) hS1.2.2.2.2.2.2.1, keep_cell hb8 (Nat.le_refl _) hS1.2.2.2.2.2.2.2.1, keep_cell hb8 (Nat.le_refl _) hS1.2.2.2.2.2.2.2.2.1, keep_cell hb8 (Nat.le_refl _) hS1.2.2.2.2.2.2.2.2.2.1, keep_cell hb8 (Nat.le_refl _) hS1.2.2.2.2.2.2.2.2.2.2.1, keep_cell hb8 (Nat.le_refl _) hS1.2.2.2.2.2.2.2.2.2.2.2⟩, ?_⟩
        refine takeH 9 (some 12) (.slice (some ⟨g, 0, none⟩) ((netOf n F T G P m Lc Hc Uc Vc).wy a.toNat c.toNat false).length.succ gc) rfl rfl (by kernel_rfl) (by kernel_rfl) (by kernel_rfl) (fun _ _ _ h => h) (by rfl) (show (fun w' => w'.cell? ⟨w2.heap.size, 0, none⟩ = some (.int .i64 p) ∧ w'.cell? ⟨w2.heap.size, 1, none⟩ = some (.slice ao n cap) ∧ w'.cell? ⟨w2.heap.size, 2, none⟩ = some (.slice (some ⟨bo, oo, none⟩) k pcap) ∧ w'.cell? ⟨w2.heap.size, 3, none⟩ = some (.slice eo m ecap) ∧ w'.cell? ⟨w2.heap.size, 4, none⟩ = some (.slice uo m ucap) ∧ w'.cell? ⟨w2.heap.size, 5, none⟩ = some (.slice (some ⟨b5, o5, none⟩) m vcap) ∧ w'.cell? ⟨w2.heap.size, 6, none⟩ = some (.map (some ma)) ∧ w'.cell? ⟨w2.heap.size, 7, none⟩ = some (.map (some me)) ∧ w'.cell? ⟨w.heap.size + 1, 0, none⟩ = some (.slice (some ⟨bo, oo, none⟩) k pcap) ∧ w'.cell? ⟨w4.heap.size, 0, none⟩ = some (.int .i64 (j : Int)) ∧ w'.cell? ⟨w4.heap.size, 1, none⟩ = some (.bool false) ∧ w'.cell? ⟨bo, oo + fN, none⟩ = some (.int .i64 (P fN))) w8 from ⟨keep_cell hb8 (Nat.le_refl _) hS1.1, keep_cell hb8 (Nat.le_refl _) hS1.2.1, keep_cell hb8 (Nat.le_refl _) hS1.2.2.1, keep_cell hb8 (Nat.le_refl _) hS1.2.2.2.1, keep_cell hb8 (Nat.le_refl _) hS1.2.2.2.2.1, keep_cell hb8 (Nat.le_refl _) hS1.2.2.2.2.2.1, keep_cell hb8 (Nat.le_refl _) hS1.2.2.2.2.2.2.1, keep_cell hb8 (Nat.le_refl _) hS1.2.2.2.2.2.2.2.1, keep_cell hb8 (Nat.le_refl _) hS1.2.2.2.2.2.2.2.2.1, keep_cell hb8 (Nat.le_refl _) hS1.2.2.2.2.2.2.2.2.2.1, keep_cell hb8 (Nat.le_refl _) hS1.2.2.2.2.2.2.2.2.2.2.1, keep_cell hb8 (Nat.le_refl _) hS1.2.2.2.2.2.2.2.2.2.2.2⟩) (fun w' hSw => by go_simp) ?_
        simp only [Act.put, List.setIfInBounds_toArray, List.set_cons_zero, List.set_cons_succ]
        refine wpAnyH_done (by kernel_rfl) ?_ _
        go_wp2
        go_ret
        subst hfNe
        exact ⟨some ⟨g, 0, none⟩, gc, rfl, fun _ => ⟨g, rfl, Nat.le_trans hXE.size (hO8.at rfl).1, hO8.from hXE.size⟩, below_next hXE (Nat.le_refl _) hb8⟩
      · simp only [if_true, if_false, Bool.false_eq_true] at hfar ⊢
        obtain ⟨b5, o5, rfl, d5⟩ := hNX.up j hj0
        have hA5 : Below w4.heap.size w4 (w4.alloc (.cells #[.int .i64 (j : Int), .bool true] 91)) := (Below.refl _ _).alloc (Nat.le_refl _) _
        have s0 : (w4.alloc (.cells #[.int .i64 (j : Int), .bool true] 91)).cell? ⟨w4.heap.size, 0, none⟩ = some (.int .i64 (j : Int)) := by simp [go_sem]
        have s1 : (w4.alloc (.cells #[.int .i64 (j : Int), .bool true] 91)).cell? ⟨w4.heap.size, 1, none⟩ = some (.bool true) := by simp [go_sem]
        have hz0 := keep_cell (below_next (below_next (below_next (Below.refl _ _) (Nat.le_refl _) hb2) (Nat.le_refl _) hX1) (Nat.le_refl _) hb4) (Nat.le_refl _) HZ0.out
        replace q0 := keep_cell hA5 (Nat.le_refl _) q0
        replace q1 := keep_cell hA5 (Nat.le_refl _) q1
        replace q2 := keep_cell hA5 (Nat.le_refl _) q2
        replace q3 := keep_cell hA5 (Nat.le_refl _) q3
        replace q4 := keep_cell hA5 (Nat.le_refl _) q4
        replace q5 := keep_cell hA5 (Nat.le_refl _) q5
        replace q6 := keep_cell hA5 (Nat.le_refl _) q6
        replace q7 := keep_cell hA5 (Nat.le_refl _) q7
        replace hz0 := keep_cell hA5 (Nat.le_refl _) hz0
        have hXC := below_next hXB (Nat.le_refl _) hA5
        have hG5 := (hG2.next hX1).next (below_next hb4 (Nat.le_refl _) hA5)
        clear hXB hNX
        go_wp2_with fail
        generalize (w4.alloc (.cells #[.int .i64 (j : Int), .bool true] 91)) = W5 at hA5 s0 s1 hz0 q0 q1 q2 q3 q4 q5 q6 q7 hXC hG5 ⊢
        refine (ranks_any _ _ _ _ _ _ _ _ _ _ _ _ _ _ _ _ Lc Hc j true hj0 D.hm _ hG5.rows.eds).mono ?_
        simp only [if_true, if_false, Bool.false_eq_true]
        rintro e w6 ⟨rfl, hb6⟩
        have hXD := below_next hXC (Nat.le_refl _) hb6
        have hG6 := hG5.next hb6
        replace hz0 := keep_cell hb6 (Nat.le_refl _) hz0
        replace s0 := keep_cell hb6 (Nat.le_refl _) s0
        replace s1 := keep_cell hb6 (Nat.le_refl _) s1
        replace q0 := keep_cell hb6 (Nat.le_refl _) q0
        replace q1 := keep_cell hb6 (Nat.le_refl _) q1
        replace q2 := keep_cell hb6 (Nat.le_refl _) q2
        replace q3 := keep_cell hb6 (Nat.le_refl _) q3
        replace q4 := keep_cell hb6 (Nat.le_refl _) q4
        replace q5 := keep_cell hb6 (Nat.le_refl _) q5
        replace q6 := keep_cell hb6 (Nat.le_refl _) q6
        replace q7 := keep_cell hb6 (Nat.le_refl _) q7
        clear hXC hG5 hA5 d5
        obtain ⟨fN, hfNe⟩ : ∃ fN, a.toNat = fN := ⟨_, rfl⟩
        have hfN : Lc j = (fN : Int) := by rw [← hj, hat.2.1]; omega
        rw [hfN]
        have hfk : fN < k := by omega
        obtain ⟨bo, oo, rfl, dO⟩ := hG6.rows.ord fN hfk
        have l5 : (0 : Int) ≤ (fN : Int) := by omega
        have l6 : (fN : Int) < (k : Int) := by omega
        go_wp2_with fail
        have hS0 : (fun w' => w'.cell? ⟨w2.heap.size, 0, none⟩ = some (.int .i64 p) ∧ w'.cell? ⟨w2.heap.size, 1, none⟩ = some (.slice ao n cap) ∧ w'.cell? ⟨w2.heap.size, 2, none⟩ = some (.slice (some ⟨bo, oo, none⟩) k pcap) ∧ w'.cell? ⟨w2.heap.size, 3, none⟩ = some (.slice eo m ecap) ∧ w'.cell? ⟨w2.heap.size, 4, none⟩ = some (.slice (some ⟨b5, o5, none⟩) m ucap) ∧ w'.cell? ⟨w2.heap.size, 5, none⟩ = some (.slice vo m vcap) ∧ w'.cell? ⟨w2.heap.size, 6, none⟩ = some (.map (some ma)) ∧ w'.cell? ⟨w2.heap.size, 7, none⟩ = some (.map (some me)) ∧ w'.cell? ⟨w.heap.size + 1, 0, none⟩ = some (.slice (some ⟨bo, oo, none⟩) k pcap) ∧ w'.cell? ⟨w4.heap.size, 0, none⟩ = some (.int .i64 (j : Int)) ∧ w'.cell? ⟨w4.heap.size, 1, none⟩ = some (.bool true) ∧ w'.cell? ⟨bo, oo + fN, none⟩ = some (.int .i64 (P fN))) w6.drew := ⟨q0, q1, q2, q3, q4, q5, q6, q7, hz0, s0, s1, dO⟩
        refine wp_region_held_drew (S := fun w' => w'.cell? ⟨w2.heap.size, 0, none⟩ = some (.int .i64 p) ∧ w'.cell? ⟨w2.heap.size, 1, none⟩ = some (.slice ao n cap) ∧ w'.cell? ⟨w2.heap.size, 2, none⟩ = some (.slice (some ⟨bo, oo, none⟩) k pcap) ∧ w'.cell? ⟨w2.heap.size, 3, none⟩ = some (.slice eo m ecap) ∧ w'.cell? ⟨w2.heap.size, 4, none⟩ = some (.slice (some ⟨b5, o5, none⟩) m ucap) ∧ w'.cell? ⟨w2.heap.size, 5, none⟩ = some (.slice vo m vcap) ∧ w'.cell? ⟨w2.heap.size, 6, none⟩ = some (.map (some ma)) ∧ w'.cell? ⟨w2.heap.size, 7, none⟩ = some (.map (some me)) ∧ w'.cell? ⟨w.heap.size + 1, 0, none⟩ = some (.slice (some ⟨bo, oo, none⟩) k pcap) ∧ w'.cell? ⟨w4.heap.size, 0, none⟩ = some (.int .i64 (j : Int)) ∧ w'.cell? ⟨w4.heap.size, 1, none⟩ = some (.bool true) ∧ w'.cell? ⟨bo, oo + fN, none⟩ = some (.int .i64 (P fN))) (by kernel_rfl) hS0 (fun hS => ?_)
        refine takeH 0 (some 59) (.agg #[.int .i64 p, .slice ao n cap, .slice (some ⟨bo, oo, none⟩) k pcap, .slice eo m ecap, .slice (some ⟨b5, o5, none⟩) m ucap, .slice vo m vcap, .map (some ma), .map (some me)]) rfl rfl (by kernel_rfl) (by kernel_rfl) (by kernel_rfl) (fun _ _ _ h => h) (by rfl) hS (fun w' hSw => by go_split_ands; go_simp) ?_
        simp only [Act.put, List.setIfInBounds_toArray, List.set_cons_zero, List.set_cons_succ]
        refine takeH 1 (some 60) (.pointer (some ⟨w.heap.size + 1, 0, none⟩)) rfl rfl (by kernel_rfl) (by kernel_rfl) (by kernel_rfl) (fun _ _ _ h => h) (by rfl) hS (fun w' hSw => by go_split_ands; go_simp) ?_
        simp only [Act.put, List.setIfInBounds_toArray, List.set_cons_zero, List.set_cons_succ]
        refine takeH 2 (some 61) (.slice (some ⟨bo, oo, none⟩) k pcap) rfl rfl (by kernel_rfl) (by kernel_rfl) (by kernel_rfl) (fun _ _ _ h => h) (by rfl) hS (fun w' hSw => by go_split_ands; go_simp) ?_
        simp only [Act.put, List.setIfInBounds_toArray, List.set_cons_zero, List.set_cons_succ]
        refine takeH 3 (some 62) (.int .i64 (fN : Int)) rfl rfl (by kernel_rfl) (by kernel_rfl) (by kernel_rfl) (fun _ _ _ h => h) (by rfl) hS (fun w' hSw => by go_split_ands; go_simp) ?_
        simp only [Act.put, List.setIfInBounds_toArray, List.set_cons_zero, List.set_cons_succ]
        refine takeH 4 (some 63) (.pointer (some ⟨bo, oo + fN, none⟩)) rfl rfl (by kernel_rfl) (by kernel_rfl) (by kernel_rfl) (fun _ _ _ h => h) (by rfl) hS (fun w' hSw => by go_split_ands; go_simp) ?_
        simp only [Act.put, List.setIfInBounds_toArray, List.set_cons_zero, List.set_cons_succ]
        refine takeH 5 (some 64) (.int .i64 (P fN)) rfl rfl (by kernel_rfl) (by kernel_rfl) (by kernel_rfl) (fun _ _ _ h => h) (by rfl) hS (fun w' hSw => by go_split_ands; go_simp) ?_
        simp only [Act.put, List.setIfInBounds_toArray, List.set_cons_zero, List.set_cons_succ]
        refine takeH 6 (some 65) (.agg #[.int .i64 (j : Int), .bool true]) rfl rfl (by kernel_rfl) (by kernel_rfl) (by kernel_rfl) (fun _ _ _ h => h) (by rfl) hS (fun w' hSw => by go_split_ands; go_simp) ?_
        simp only [Act.put, List.setIfInBounds_toArray, List.set_cons_zero, List.set_cons_succ]
        refine step1H 7 _ rfl (by kernel_rfl) (by rfl) ?_
        go_simp
        have hA7 : Below w6.heap.size w6 (w6.drew.alloc (.cells #[.int .i64 (j : Int), .bool true] 91)) := ((Below.refl _ _).drew).alloc (Nat.le_refl _) _
        have hS1 : (fun w' => w'.cell? ⟨w2.heap.size, 0, none⟩ = some (.int .i64 p) ∧ w'.cell? ⟨w2.heap.size, 1, none⟩ = some (.slice ao n cap) ∧ w'.cell? ⟨w2.heap.size, 2, none⟩ = some (.slice (some ⟨bo, oo, none⟩) k pcap) ∧ w'.cell? ⟨w2.heap.size, 3, none⟩ = some (.slice eo m ecap) ∧ w'.cell? ⟨w2.heap.size, 4, none⟩ = some (.slice (some ⟨b5, o5, none⟩) m ucap) ∧ w'.cell? ⟨w2.heap.size, 5, none⟩ = some (.slice vo m vcap) ∧ w'.cell? ⟨w2.heap.size, 6, none⟩ = some (.map (some ma)) ∧ w'.cell? ⟨w2.heap.size, 7, none⟩ = some (.map (some me)) ∧ w'.cell? ⟨w.heap.size + 1, 0, none⟩ = some (.slice (some ⟨bo, oo, none⟩) k pcap) ∧ w'.cell? ⟨w4.heap.size, 0, none⟩ = some (.int .i64 (j : Int)) ∧ w'.cell? ⟨w4.heap.size, 1, none⟩ = some (.bool true) ∧ w'.cell? ⟨bo, oo + fN, none⟩ = some (.int .i64 (P fN))) (w6.drew.alloc (.cells #[.int .i64 (j : Int), .bool true] 91)) := ⟨keep_cell hA7 (Nat.le_refl _) q0, keep_cell hA7 (Nat.le_refl _) q1, keep_cell hA7 (Nat.le_refl _) q2, keep_cell hA7 (Nat.le_refl _) q3, keep_cell hA7 (Nat.le_refl _) q4, keep_cell hA7 (Nat.le_refl _) q5, keep_cell hA7 (Nat.le_refl _) q6, keep_cell hA7 (Nat.le_refl _) q7, keep_cell hA7 (Nat.le_refl _) hz0, keep_cell hA7 (Nat.le_refl _) s0, keep_cell hA7 (Nat.le_refl _) s1, keep_cell hA7 (Nat.le_refl _) dO⟩
        have hR7 : SRow (w6.drew.alloc (.cells #[.int .i64 (j : Int), .bool true] 91)) w6.heap.size 0 [(j, true)] := fun i e' u' hi => by
          match i, hi with
          | 0, hi => simp at hi; obtain ⟨rfl, rfl⟩ := hi; exact ⟨by simp [go_sem], by simp [go_sem]⟩
          | i + 1, hi => simp at hi
        refine ⟨hS1, ?_⟩
        have hG7 := hG6.next hA7
        have hXE := below_next hXD (Nat.le_refl _) hA7
        have hsz7 : w6.heap.size < (w6.drew.alloc (.cells #[.int .i64 (j : Int), .bool true] 91)).heap.size := by simp
        have hrst : (netOf n F T G P m Lc Hc Uc Vc).rest ([(j, true)].reverse.map (rkS Lc Hc)) = (netOf n F T G P m Lc Hc Uc Vc).wy a.toNat c.toNat true := by
          simp [Net.rest, rkS]
          rw [← hj, hat.2.1, hat.2.2]
        have hwl := ((netOf n F T G P m Lc Hc Uc Vc).wy_len a.toNat c.toNat true).2
        have hpw : 2 ^ a.toNat ≤ 2 ^ 29 := Nat.pow_le_pow_right (by omega) (by have := D.hk; omega)
        have HU := unpack_any p ao n cap F T G (some ⟨bo, oo, none⟩) k pcap P eo m ecap Lc Hc (some ⟨b5, o5, none⟩) ucap Uc vo vcap Vc ma me D (P fN) w6.heap.size 0 1 [(j, true)] (by rw [hrst]; omega) (fun s hs => by
          simp only [List.mem_singleton] at hs
          subst hs
          refine ⟨hj0, ?_⟩
          have h1 : (Lc j).toNat = a.toNat := by rw [← hj, hat.2.1]
          have h2 : (Hc j).toNat = c.toNat := by rw [← hj, hat.2.2]
          simp only [h1, h2]
          have h3 := hwf.2
          have h4 : (netOf n F T G P m Lc Hc Uc Vc).wt a.toNat c.toNat true ≤ 1000000000000 := by
            rw [hwt]
            simp only [if_true, if_false, Bool.false_eq_true]
            exact (D.up j hj0).2
          omega) (w6.drew.alloc (.cells #[.int .i64 (j : Int), .bool true] 91)) hG7 hR7 hsz7 (Nat.le_refl _)
        rw [hrst] at HU
        refine step1H 8 _ rfl (by kernel_rfl) (by rfl) ?_
        go_simp
        refine HU.mono ?_
        rintro e w8 ⟨g, gc, rfl, hO8, hb8⟩
        refine ⟨⟨keep_cell hb8 (Nat.le_refl _) hS1.1, keep_cell hb8 (Nat.le_refl _) hS1.2.1, keep_cell hb8 (Nat.le_refl _) hS1.2.2.1, keep_cell hb8 (Nat.le_refl _) hS1.2.2.2.1, keep_cell hb8 (Nat.le_refl _) hS1.2.2.2.2.1, keep_cell hb8 (Nat.le_refl _) hS1.2.2.2.2.2.1, keep_cell hb8 (Nat.le_refl _) hS1.2.2.2.2.2.2.1, keep_cell hb8 (Nat.le_refl _) hS1.2.2.2.2.2.2.2.1, keep_cell hb8 (Nat.le_refl _) hS1.2.2.2.2.2.2.2.2.1, keep_cell hb8 (Nat.le_refl _) hS1.2.2.2.2.2.2.2.2.2.1, keep_cell hb8 (Nat.le_refl _) hS1.2.2.2.2.2.2.2.2.2.2.1, keep_cell hb8 (Nat.le_refl _) hS1.2.2.2.2.2.2.2.2.2.2.2⟩, ?_⟩
        refine takeH 9 (some 12) (.slice (some ⟨g, 0, none⟩) ((netOf n F T G P m Lc Hc Uc Vc).wy a.toNat c.toNat true).length.succ gc) rfl rfl (by kernel_rfl) (by kernel_rfl) (by kernel_rfl) (fun _ _ _ h => h) (by rfl) (show (fun w' => w'.cell? ⟨w2.heap.size, 0, none⟩ = some (.int .i64 p) ∧ w'.cell? ⟨w2.heap.size, 1, none⟩ = some (.slice ao n cap) ∧ w'.cell? ⟨w2.heap.size, 2, none⟩ = some (.slice (some ⟨bo, oo, none⟩) k pcap) ∧ w'.cell? ⟨w2.heap.size, 3, none⟩ = some (.slice eo m ecap) ∧ w'.cell? ⟨w2.heap.size, 4, none⟩ = some (.slice (some ⟨b5, o5, none⟩) m ucap) ∧ w'.cell? ⟨w2.heap.size, 5, none⟩ = some (.slice vo m vcap) ∧ w'.cell? ⟨w2.heap.size, 6, none⟩ = some (.map (some ma)) ∧ w'.cell? ⟨w2.heap.size, 7, none⟩ = some (.map (some me)) ∧ w'.cell? ⟨w.heap.size + 1, 0, none⟩ = some (.slice (some ⟨bo, oo, none⟩) k pcap) ∧ w'.cell? ⟨w4.heap.size, 0, none⟩ = some (.int .i64 (j : Int)) ∧ w'.cell? ⟨w4.heap.size, 1, none⟩ = some (.bool true) ∧ w'.cell? ⟨bo, oo + fN, none⟩ = some (.int .i64 (P fN))) w8 from ⟨keep_cell hb8 (Nat.le_refl _) hS1.1, keep_cell hb8 (Nat.le_refl _) hS1.2.1, keep_cell hb8 (Nat.le_refl _) hS1.2.2.1, keep_cell hb8 (Nat.le_refl _) hS1.2.2.2.1, keep_cell hb8 (Nat.le_refl _) hS1.2.2.2.2.1, keep_cell hb8 (Nat.le_refl _) hS1.2.2.2.2.2.1, keep_cell hb8 (Nat.le_refl _) hS1.2.2.2.2.2.2.1, keep_cell hb8 (Nat.le_refl _) hS1.2.2.2.2.2.2.2.1, keep_cell hb8 (Nat.le_refl _) hS1.2.2.2.2.2.2.2.2.1, keep_cell hb8 (Nat.le_refl _) hS1.2.2.2.2.2.2.2.2.2.1, keep_cell hb8 (Nat.le_refl _) hS1.2.2.2.2.2.2.2.2.2.2.1, keep_cell hb8 (Nat.le_refl _) hS1.2.2.2.2.2.2.2.2.2.2.2⟩) (fun w' hSw => by go_simp) ?_
        simp only [Act.put, List.setIfInBounds_toArray, List.set_cons_zero, List.set_cons_succ]
        refine wpAnyH_done (by kernel_rfl) ?_ _
        go_wp2
        go_ret
        subst hfNe
        exact ⟨some ⟨g, 0, none⟩, gc, rfl, fun _ => ⟨g, rfl, Nat.le_trans hXE.size (hO8.at rfl).1, hO8.from hXE.size⟩, below_next hXE (Nat.le_refl _) hb8⟩

end Go.Proofs.Yteibbknpcgcjjab
