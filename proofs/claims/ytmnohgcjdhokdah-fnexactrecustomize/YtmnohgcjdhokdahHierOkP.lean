/-
  HierOk, the document's and the program's, at every map and every hierarchy.
-/
import Derived.Test.YtmnohgcjdhokdahPack7
import Derived.Test.YtmnohgcjdhokdahPack5
import Derived.Deep.RegionHeld3
set_option linter.unusedVariables false
set_option linter.unusedSimpArgs false
namespace Go.Proofs.Ytmnohgcjdhokdah
open Go.RowKit Go.Deep Go.Joins
attribute [local go_sem ↓] Go.wp_at_zero Go.wp_at_succ

/-- The order is one of the map's, and the edges are the fill by it. -/
def HOk (p : Int) (n : Nat) (F T G : Nat → Int) (k : Nat) (P : Nat → Int) (m : Nat) (L H : Nat → Int) : Prop := ordB p n F T G k P = true ∧ SameE m (lenF p n F T G k P) L H (Lf (lstF p n F T P)) (Hf (lstF p n F T P))
/-- The boxes of two arguments, each of two cells, in a later world. -/
theorem box2b {w W : World} {a0 a1 c0 c1 : Value} {s t : TypeId} (h : Below (w.heap.size + 2) ((w.alloc (.cells #[a0, a1] s)).alloc (.cells #[c0, c1] t)) W) :
    (W.cell? ⟨w.heap.size, 0, none⟩ = some a0 ∧ W.cell? ⟨w.heap.size, 1, none⟩ = some a1) ∧ (W.cell? ⟨w.heap.size + 1, 0, none⟩ = some c0 ∧ W.cell? ⟨w.heap.size + 1, 1, none⟩ = some c1) ∧ w.heap.size + 2 ≤ W.heap.size := by
  obtain ⟨h1, h2, _, h4⟩ := box22 h
  exact ⟨h1, h2, h4⟩
theorem erow_of' {w W : World} {e : Ending} {m : Nat} {L H : Nat → Int} {ao : Option Addr} (h : 0 < m → ∃ g, ao = some ⟨g, 0, none⟩ ∧ w.heap.size ≤ g ∧ EHas W g m (er L H)) : ERow W ao m L H := fun k hk => by
  obtain ⟨g, e, _, hI⟩ := h (by omega)
  subst e
  exact hI.row k hk
set_option maxHeartbeats 1000000 in
theorem implHierOk_any (p : Int) (ao : Option Addr) (n cap : Nat) (F T G : Nat → Int) (po : Option Addr) (k pcap : Nat) (P : Nat → Int) (eo : Option Addr) (m ecap : Nat) (L H : Nat → Int) (hn : n ≤ 1048576) (hk : k ≤ 1048576) (hm : m ≤ 1048576) (w : World) (hr : Row w ao n F T G) (hp : IRow w po k P) (he : ERow w eo m L H) :
    Calls Try.prog 62 #[.agg #[.int .i64 p, .slice ao n cap], .agg #[.slice po k pcap, .slice eo m ecap]] w fun e w' => BAns e (HOk p n F T G k P m L H) ∧ Below w.heap.size w w' := by
  rcases Bool.eq_false_or_eq_true (ordB p n F T G k P) with h | h
  rotate_left
  · have HN : Hid (¬ HOk p n F T G k P m L H) := fun x => by rw [x.1] at h; cases h
    have hA0 : Below (w.heap.size + 2) ((w.alloc (.cells #[.int .i64 p, .slice ao n cap] 47)).alloc (.cells #[.slice po k pcap, .slice eo m ecap] 33)) ((w.alloc (.cells #[.int .i64 p, .slice ao n cap] 47)).alloc (.cells #[.slice po k pcap, .slice eo m ecap] 33)).drew := (Below.refl _ _).drew
    obtain ⟨⟨q0, q1⟩, ⟨q2, q3⟩, q6⟩ := box2b hA0
    go_enter Try.func62, Try.ntmps62
    go_wp2_with fail
    refine wp_region_held_drew (S := fun w' => w'.cell? ⟨w.heap.size, 0, none⟩ = some (.int .i64 p) ∧ w'.cell? ⟨w.heap.size, 1, none⟩ = some (.slice ao n cap) ∧ w'.cell? ⟨w.heap.size + 1, 0, none⟩ = some (.slice po k pcap) ∧ w'.cell? ⟨w.heap.size + 1, 1, none⟩ = some (.slice eo m ecap)) (by kernel_rfl) ⟨q0, q1, q2, q3⟩ (fun hS => ?_)
    refine takeH 0 (some 5) (.agg #[.int .i64 p, .slice ao n cap]) rfl rfl (by kernel_rfl) (by kernel_rfl) (by kernel_rfl) (fun _ _ _ h => h) (by rfl) hS (fun w hSw => by go_split_ands; go_simp) ?_
    simp only [Act.put, List.setIfInBounds_toArray, List.set_cons_zero, List.set_cons_succ]
    refine takeH 1 (some 6) (.pointer (some ⟨w.heap.size + 1, 0, none⟩)) rfl rfl (by kernel_rfl) (by kernel_rfl) (by kernel_rfl) (fun _ _ _ h => h) (by rfl) hS (fun w hSw => by go_split_ands; go_simp) ?_
    simp only [Act.put, List.setIfInBounds_toArray, List.set_cons_zero, List.set_cons_succ]
    refine takeH 2 (some 7) (.slice po k pcap) rfl rfl (by kernel_rfl) (by kernel_rfl) (by kernel_rfl) (fun _ _ _ h => h) (by rfl) hS (fun w hSw => by go_split_ands; go_simp) ?_
    simp only [Act.put, List.setIfInBounds_toArray, List.set_cons_zero, List.set_cons_succ]
    refine step1H 3 _ rfl (by kernel_rfl) (by rfl) ?_
    go_simp
    refine (implOrderOk_any p ao n cap F T G po k pcap P hn hk _ (((hr.alloc _).alloc _).below hA0 (by simp)) (((hp.alloc _).alloc _).below hA0 (by simp))).mono ?_
    rw [h]
    rintro e w1 ⟨rfl, hb1⟩
    have hS1 := And.intro (keep_cell hb1 (Nat.le_refl _) q0) (And.intro (keep_cell hb1 (Nat.le_refl _) q1) (And.intro (keep_cell hb1 (Nat.le_refl _) q2) (keep_cell hb1 (Nat.le_refl _) q3)))
    refine ⟨hS1, ?_⟩
    refine takeH 4 (some 9) (.bool false) rfl rfl (by kernel_rfl) (by kernel_rfl) (by kernel_rfl) (fun _ _ _ h => h) (by rfl) hS1 (fun w hSw => by go_split_ands; go_simp) ?_
    simp only [Act.put, List.setIfInBounds_toArray, List.set_cons_zero, List.set_cons_succ]
    refine skipH 5 (some 10) rfl rfl (by kernel_rfl) (by kernel_rfl) (by kernel_rfl) (fun _ _ _ h => h) (by rfl) hS1 ?_
    simp only [Act.put, List.setIfInBounds_toArray, List.set_cons_zero, List.set_cons_succ]
    refine skipH 7 (some 12) rfl rfl (by kernel_rfl) (by kernel_rfl) (by kernel_rfl) (fun _ _ _ h => h) (by rfl) hS1 ?_
    simp only [Act.put, List.setIfInBounds_toArray, List.set_cons_zero, List.set_cons_succ]
    refine skipH 8 (some 13) rfl rfl (by kernel_rfl) (by kernel_rfl) (by kernel_rfl) (fun _ _ _ h => h) (by rfl) hS1 ?_
    simp only [Act.put, List.setIfInBounds_toArray, List.set_cons_zero, List.set_cons_succ]
    refine skipH 6 (some 11) rfl rfl (by kernel_rfl) (by kernel_rfl) (by kernel_rfl) (fun _ _ _ h => h) (by rfl) hS1 ?_
    simp only [Act.put, List.setIfInBounds_toArray, List.set_cons_zero, List.set_cons_succ]
    refine skipH 9 (some 14) rfl rfl (by kernel_rfl) (by kernel_rfl) (by kernel_rfl) (fun _ _ _ h => h) (by rfl) hS1 ?_
    simp only [Act.put, List.setIfInBounds_toArray, List.set_cons_zero, List.set_cons_succ]
    refine skip1H 10 (some 15) rfl rfl (by kernel_rfl) (by rfl) hS1 ?_
    simp only [Act.put, List.setIfInBounds_toArray, List.set_cons_zero, List.set_cons_succ]
    refine skip1H 11 (some 16) rfl rfl (by kernel_rfl) (by rfl) hS1 ?_
    simp only [Act.put, List.setIfInBounds_toArray, List.set_cons_zero, List.set_cons_succ]
    refine takeH 12 (some 17) (.bool false) rfl rfl (by kernel_rfl) (by kernel_rfl) (by kernel_rfl) (fun _ _ _ h => h) (by rfl) hS1 (fun w hSw => by go_split_ands; go_simp) ?_
    simp only [Act.put, List.setIfInBounds_toArray, List.set_cons_zero, List.set_cons_succ]
    refine takeH 13 (some 4) (.bool false) rfl rfl (by kernel_rfl) (by kernel_rfl) (by kernel_rfl) (fun _ _ _ h => h) (by rfl) hS1 (fun w hSw => by go_split_ands; go_simp) ?_
    simp only [Act.put, List.setIfInBounds_toArray, List.set_cons_zero, List.set_cons_succ]
    refine wpAnyH_done (by kernel_rfl) ?_ _
    go_wp2
    go_ret
    exact ⟨bans_no HN.out, unbox2 (below_next hA0 (by simp) hb1) (by omega)⟩
  have HC : Hid (HOk p n F T G k P m L H ↔ SameE m (lenF p n F T G k P) L H (Lf (lstF p n F T P)) (Hf (lstF p n F T P))) := ⟨fun x => x.2, fun x => ⟨h, x⟩⟩
  have hB := fun ao' cap' po' pcap' W hr' hp' => implFill_any p ao' n cap' F T G po' k pcap' P hn hk W hr' hp'
  have hlF := lenF_le p n F T G k P
  generalize lenF p n F T G k P = m' at hB hlF HC
  generalize Lf (lstF p n F T P) = L' at hB HC
  generalize Hf (lstF p n F T P) = H' at hB HC
  have HF : Hid (∀ ao' cap' po' pcap' W, Row W ao' n F T G → IRow W po' k P → Calls Try.prog 105 #[.agg #[.int .i64 p, .slice ao' n cap'], .slice po' k pcap'] W fun e w' => EAns W w' e m' L' H') := hB
  clear hB
  have hA0 : Below (w.heap.size + 2) ((w.alloc (.cells #[.int .i64 p, .slice ao n cap] 47)).alloc (.cells #[.slice po k pcap, .slice eo m ecap] 33)) ((w.alloc (.cells #[.int .i64 p, .slice ao n cap] 47)).alloc (.cells #[.slice po k pcap, .slice eo m ecap] 33)).drew := (Below.refl _ _).drew
  obtain ⟨⟨q0, q1⟩, ⟨q2, q3⟩, q6⟩ := box2b hA0
  go_enter Try.func62, Try.ntmps62
  go_wp2_with fail
  go_region_held3 (fun w' => w'.cell? ⟨w.heap.size, 0, none⟩ = some (.int .i64 p) ∧ w'.cell? ⟨w.heap.size, 1, none⟩ = some (.slice ao n cap) ∧ w'.cell? ⟨w.heap.size + 1, 0, none⟩ = some (.slice po k pcap) ∧ w'.cell? ⟨w.heap.size + 1, 1, none⟩ = some (.slice eo m ecap))
    (first | (go_split_ands; refine ⟨?_, ?_, ?_, ?_⟩ <;> exact keep_cell hb3 (Nat.le_refl _) (by assumption)) | (go_split_ands; refine ⟨?_, ?_, ?_, ?_⟩ <;> exact keep_cell hb2 (Nat.le_refl _) (by assumption)) | (go_split_ands; refine ⟨?_, ?_, ?_, ?_⟩ <;> exact keep_cell hb1 (Nat.le_refl _) (by assumption)) | go_keep)
    (first | (go_at_call 103; refine (implOrderOk_any p ao n cap F T G po k pcap P hn hk _ (((hr.alloc _).alloc _).below hA0 (by simp)) (((hp.alloc _).alloc _).below hA0 (by simp))).mono ?_; rw [h]; rintro e w1 ⟨rfl, hb1⟩; have hA1 := below_next hA0 (by simp) hb1) | (go_at_call 105; refine (HF.out _ _ _ _ _ (((hr.alloc _).alloc _).below hA1 (by simp)) (((hp.alloc _).alloc _).below hA1 (by simp))).mono ?_; rintro e w2 ⟨aoE, capE, rfl, hE, hb2⟩; have hA2 := below_next hA1 (by simp) hb2) | (go_at_call 104; refine (equalE_any _ _ m m' _ _ L H L' H' hm (by omega) _ (((he.alloc _).alloc _).below hA2 (by simp)) (erow_of' (e := .outgrown) hE)).mono ?_; rintro e w3 ⟨⟨v, rfl, hv⟩, hb3⟩))
  go_wp2
  go_ret
  exact ⟨⟨v, rfl, hv.trans HC.out.symm⟩, unbox2 (below_next hA2 (by simp) hb3) (by omega)⟩
set_option maxHeartbeats 2000000 in
theorem specHierOk_any (p : Int) (ao : Option Addr) (n cap : Nat) (F T G : Nat → Int) (po : Option Addr) (k pcap : Nat) (P : Nat → Int) (eo : Option Addr) (m ecap : Nat) (L H : Nat → Int) (hn : n ≤ 1048576) (hk : k ≤ 1048576) (hm : m ≤ 1048576) (w : World) (hr : Row w ao n F T G) (hp : IRow w po k P) (he : ERow w eo m L H) :
    Calls Try.prog 96 #[.agg #[.int .i64 p, .slice ao n cap], .agg #[.slice po k pcap, .slice eo m ecap]] w fun e w' => BAns e (HOk p n F T G k P m L H) ∧ Below w.heap.size w w' := by
  rcases Bool.eq_false_or_eq_true (ordB p n F T G k P) with h | h
  rotate_left
  · have HN : Hid (¬ HOk p n F T G k P m L H) := fun x => by rw [x.1] at h; cases h
    go_enter Try.func96, Try.ntmps96
    go_wp2_with (go_at_call 114; refine (specOrderOk_any p ao n cap F T G po k pcap P hn hk _ ((hr.alloc _).alloc _) ((hp.alloc _).alloc _)).mono ?_; rw [h]; rintro e w1 ⟨rfl, hb1⟩)
    go_ret
    exact ⟨bans_no HN.out, unbox2 hb1 (by simp; omega)⟩
  have HC : Hid (HOk p n F T G k P m L H ↔ SameE m (lenF p n F T G k P) L H (Lf (lstF p n F T P)) (Hf (lstF p n F T P))) := ⟨fun x => x.2, fun x => ⟨h, x⟩⟩
  obtain ⟨hkp, hg, ⟨hk1, hk2⟩, hea⟩ := ordB_parts h
  subst hkp
  have hL : lenF k n F T G k P = (allS (nbA F T n) P k k).length := by simp [lenF, h, lstF]
  have hS : lstF k n F T P = allS (nbA F T n) P k k := by simp [lstF]
  have hle := lenF_le k n F T G k P
  rw [hL] at hle HC
  rw [hS] at HC
  obtain ⟨_, hn1, hF, hT, hFT⟩ := ok_arcs hg
  have hB := fun ao' cap' po' pcap' W hr' hp' => l4Fill_any k ao' n cap' F T G po' pcap' P hk1 hk2 hn1 hF hT hFT hea W hr' hp'
  generalize allS (nbA F T n) P k k = l at hB hle HC
  have HF : Hid (∀ ao' cap' po' pcap' W, Row W ao' n F T G → IRow W po' k P → Calls Try.prog 115 #[.agg #[.int .i64 (k : Int), .slice ao' n cap'], .slice po' k pcap'] W fun e w' => ∃ g c, e = .returned (.slice (some ⟨g, 0, none⟩) l.length c) ∧ W.heap.size ≤ g ∧ EOwn w' W.heap.size g c l ∧ Below W.heap.size W w') := hB
  clear hB hL hS hF hT hFT hea
  go_enter Try.func96, Try.ntmps96
  go_wp2_with fail
  refine (specOrderOk_any k ao n cap F T G po k pcap P hn hk _ ((hr.alloc _).alloc _) ((hp.alloc _).alloc _)).mono ?_
  rw [h]
  rintro e w1 ⟨rfl, hb1⟩
  have hA1 := hb1.mono (B' := w.heap.size + 2) (by simp)
  obtain ⟨⟨q0, q1⟩, ⟨q2, q3⟩, q6⟩ := box2b hA1
  clear hb1
  go_wp2_with fail
  refine (HF.out _ _ _ _ _ (((hr.alloc _).alloc _).below hA1 (by simp)) (((hp.alloc _).alloc _).below hA1 (by simp))).mono ?_
  rintro e w2 ⟨g, c, rfl, hg2, hE, hb2⟩
  have hA2 := below_next hA1 (by simp) hb2
  clear q0 q1 q2 q3 q6 hA1
  obtain ⟨⟨q0, q1⟩, ⟨q2, q3⟩, q6⟩ := box2b hA2
  have hE2 := hE.has
  clear hE hb2
  by_cases hnm : m = l.length
  rotate_left
  · have HN : Hid (¬ HOk k n F T G k P m L H) := fun h => hnm (HC.out.1 h).1
    have hnm' : ¬ (l.length : Int) = (m : Int) := by omega
    go_wp2
    go_ret
    exact ⟨bans_no HN.out, unbox2 hA2 (by omega)⟩
  subst hnm
  have HH : Hid (EHas w2 g l.length (er (Lf l) (Hf l))) := hE2
  have HER : Hid (ERow w2 eo l.length L H) := ((he.alloc _).alloc _).below hA2 (by simp)
  have HA2 : Hid (Below w.heap.size w w2) := unbox2 hA2 (by omega)
  clear hE2 hA2 hr hp he
  go_wp2
  go_loopw [6] (fun x wr => ∃ j : Nat, j ≤ l.length ∧ x = .int .i64 j ∧ (∀ i, i < j → L i = Lf l i ∧ H i = Hf l i) ∧ Below w2.heap.size w2 wr) (fun x _ => l.length - (intOf x).toNat)
  case atStart => exact ⟨0, Nat.zero_le _, rfl, fun i hi => by omega, Below.refl _ _⟩
  case round =>
    obtain ⟨j, hj, rfl, hall, hbel⟩ := hrel
    have HA : Hid (∀ i, i < j → L i = Lf l i ∧ H i = Hf l i) := hall
    replace q3 := keep_cell hbel (Nat.le_refl _) q3
    clear hall q0 q1 q2
    by_cases hlt : j < l.length
    rotate_left
    · have hkn : j = l.length := by omega
      subst hkn
      go_wp2
      go_ret
      exact ⟨bans_yes (HC.out.2 ⟨rfl, HA.out⟩), below_next HA2.out (Nat.le_refl _) hbel⟩
    obtain ⟨b', o', hao', d0, d1⟩ := (HER.out.below hbel (Nat.le_refl _)) j hlt
    subst hao'
    have hEw := HH.out.next hbel
    have c0 := hEw.cell (j := j * 2) (by omega)
    have c1 := hEw.cell (j := j * 2 + 1) (by omega)
    rw [er0] at c0
    rw [er1] at c1
    have hk1 : (0 : Int) ≤ (j : Int) := by omega
    have hk2 : (j : Int) < (l.length : Int) := by omega
    clear hEw
    by_cases hx : L j = Lf l j ∧ H j = Hf l j
    · have HE : Hid (L j = Lf l j ∧ H j = Hf l j) := hx
      obtain ⟨e1, e2⟩ := hx
      rw [← e1] at c0
      rw [← e2] at c1
      clear e1 e2
      go_wp2
      go_quiet (fail)
      go_wp2
      go_roundw
      case rel => exact ⟨j + 1, by omega, by go_num, fun i hi => by
        by_cases x : i = j
        · subst x; exact HE.out
        · exact HA.out i (by omega), below_drewN hbel _⟩
      case measure => simp [intOf]; omega
    · have HE : Hid (¬ HOk k n F T G k P l.length L H) := fun h => hx ((HC.out.1 h).2 j hlt)
      have HB : Hid (∀ q, Below w.heap.size w (wr.drewN q)) := fun q => below_next HA2.out (Nat.le_refl _) (below_drewN hbel q)
      by_cases h1 : Lf l j = L j
      · have h2 : ¬ Hf l j = H j := fun h => hx ⟨h1.symm, h.symm⟩
        rw [h1] at c0
        clear h1 hx
        go_wp2
        go_quiet (fail)
        go_wp2
        go_ret
        exact ⟨bans_no HE.out, HB.out _⟩
      · clear hx
        go_wp2
        go_quiet (fail)
        go_wp2
        go_ret
        exact ⟨bans_no HE.out, HB.out _⟩

end Go.Proofs.Ytmnohgcjdhokdah
