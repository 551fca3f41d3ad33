/-
  Order, the document's and the program's, at every map of at most 2^20 arcs: the same list, in new memory.
-/
import Derived.Test.YtaddhiojahmbpaaTakeAway
import Derived.Test.YtaddhiojahmbpaaOrdDoc
import Derived.Test.YtaddhiojahmbpaaWeigh
set_option linter.unusedVariables false
set_option linter.unusedSimpArgs false
namespace Go.Proofs.Ytaddhiojahmbpaa
open Go.RowKit
attribute [local go_sem ↓] Go.wp_at_zero Go.wp_at_succ

set_option maxHeartbeats 2000000 in
theorem next_any (bm p : Nat) (B : Nat → Nat → Bool) (gone : Nat → Bool) (hp : p ≤ 24) (w : World) (hM : MeshAt w bm (p : Int) B gone) :
    Calls Try.prog 68 #[.pointer (some ⟨bm, 0, none⟩)] w fun e w' => e = .returned (.int .i64 ((pick p B gone p).1 : Int)) ∧ Below w.heap.size w w' := by
  have hml := VHas.lt hM
  have c0 := hM.places
  go_enter Try.func68, Try.ntmps68
  go_wp2
  go_quiet (fail)
  have hMq : MeshAt (w.drewN nq) bm (p : Int) B gone := VHas.of_block hM rfl
  have hbq : Below w.heap.size w (w.drewN nq) := below_drewN (Below.refl _ _) nq
  generalize w.drewN nq = wq at hMq hbq ⊢
  have d0 := hMq.places
  clear c0
  go_wp2
  clear d0
  go_loopw [3, 4, 15] (fun x y i wr => ∃ j : Nat, j ≤ p ∧ x = .int .i64 ((pick p B gone j).1 : Int) ∧ y = .int .i64 ((pick p B gone j).2 : Int) ∧ i = .int .i64 j ∧ MeshAt wr bm (p : Int) B gone ∧ Below w.heap.size w wr) (fun _ _ i _ => p - (intOf i).toNat)
  case atStart => exact ⟨0, Nat.zero_le _, rfl, rfl, rfl, hMq, hbq⟩
  case round =>
    clear hMq hbq
    obtain ⟨j, hj, rfl, rfl, rfl, hMj, hbel⟩ := hrel
    have hple := pick_le (p := p) (B := B) (gone := gone) j
    by_cases hlt : j < p
    rotate_left
    · have hjp : j = p := by omega
      subst hjp
      go_wp2
      go_ret
      exact ⟨rfl, hbel⟩
    have hlt' : (j : Int) < (p : Int) := by omega
    have h24 : (j : Int) < 24 := by omega
    have c1 := hMj.gone (show j < 24 by omega)
    cases hg : gone j
    · rw [hg] at c1
      have hct := countTo_any bm p j (pick p B gone j).2 B gone hp (by omega) (by omega) wr hMj
      by_cases hc : cntB (B j) p < (pick p B gone j).2
      · have hpk : Hid (pick p B gone (j + 1) = (j, cntB (B j) p)) := by
          show (if gone j then _ else if cntB (B j) p < (pick p B gone j).2 then (j, cntB (B j) p) else _) = _
          rw [if_neg (by rw [hg]; simp), if_pos hc]
        rw [Nat.min_eq_left (Nat.le_of_lt hc)] at hct
        have hc' : (cntB (B j) p : Int) < ((pick p B gone j).2 : Int) := by omega
        go_wp2_with (go_at_call 91; refine hct.mono ?_; rintro e w2 ⟨rfl, hb2⟩)
        go_roundw
        case rel => exact ⟨j + 1, by omega, by rw [hpk.out], by rw [hpk.out], by go_num, VHas.next hMj hb2, below_next hbel (Nat.le_refl _) hb2⟩
        case measure => simp [intOf]; omega
      · have hpk : Hid (pick p B gone (j + 1) = pick p B gone j) := by
          show (if gone j then _ else if cntB (B j) p < (pick p B gone j).2 then (j, cntB (B j) p) else pick p B gone j) = _
          rw [if_neg (by rw [hg]; simp), if_neg hc]
        rw [Nat.min_eq_right (Nat.le_of_not_lt hc)] at hct
        go_wp2_with (go_at_call 91; refine hct.mono ?_; rintro e w2 ⟨rfl, hb2⟩)
        go_roundw
        case rel => exact ⟨j + 1, by omega, by rw [hpk.out], by rw [hpk.out], by go_num, VHas.next hMj hb2, below_next hbel (Nat.le_refl _) hb2⟩
        case measure => simp [intOf]; omega
    · rw [hg] at c1
      have hpk : Hid (pick p B gone (j + 1) = pick p B gone j) := by
        show (if gone j then pick p B gone j else _) = _
        rw [if_pos hg]
      go_wp2
      go_roundw
      case rel => exact ⟨j + 1, by omega, by rw [hpk.out], by rw [hpk.out], by go_num, hMj, hbel⟩
      case measure => simp [intOf]; omega

def lenO (p : Int) (n : Nat) (F T G : Nat → Int) : Nat := if graphB p n F T G then p.toNat else 0
def listO (p : Int) (n : Nat) (F T : Nat → Int) : Nat → Int := (run3 p.toNat (nbA F T n) p.toNat).2.2
theorem lenO_le (p : Int) (n : Nat) (F T G : Nat → Int) : lenO p n F T G ≤ 24 := by
  unfold lenO
  split
  · next h =>
    have := graphB_p h
    simp [inB] at this
    omega
  · omega
theorem ok_arcs {p : Nat} {n : Nat} {F T G : Nat → Int} (h : graphB (p : Int) n F T G = true) : (1 ≤ p ∧ p ≤ 24) ∧ n ≤ 100 ∧ (∀ k, k < n → 0 ≤ F k ∧ F k < (p : Int)) ∧ (∀ k, k < n → 0 ≤ T k ∧ T k < (p : Int)) ∧ ∀ k, k < n → F k ≠ T k := by
  have h1 := graphB_p h
  have h2 := graphB_arcs h
  have he : ∀ k, k < n → (0 ≤ F k ∧ F k < (p : Int)) ∧ (0 ≤ T k ∧ T k < (p : Int)) ∧ F k ≠ T k := fun k hk => by
    have := (arcsB_each n h2.2 k hk).1
    simp [arcB, inB] at this
    omega
  simp [inB] at h1
  exact ⟨by omega, h2.1, fun k hk => (he k hk).1, fun k hk => (he k hk).2.1, fun k hk => (he k hk).2.2⟩

set_option maxHeartbeats 1000000 in
theorem specOrder_cap (p : Int) (ao : Option Addr) (n cap : Nat) (F T G : Nat → Int) (hn : n ≤ 1048576) (w : World) (hr : Row w ao n F T G) :
    Calls Try.prog 27 #[.agg #[.int .i64 p, .slice ao n cap]] w fun e w' => Ans w w' e (lenO p n F T G) (listO p n F T) ∧ ∀ ao m c, e = .returned (.slice ao m c) → m ≤ c := by
  rcases Bool.eq_false_or_eq_true (graphB p n F T G) with h | h
  rotate_left
  · have hL : lenO p n F T G = 0 := by simp [lenO, h]
    rw [hL]
    go_enter Try.func27, Try.ntmps27
    go_wp2_with (go_at_call 48; refine (specGraphOk_any p ao n cap F T G hn _ (hr.alloc _)).mono ?_; rintro e w1 ⟨rfl, hb1⟩)
    go_ret
    exact ⟨⟨_, _, rfl, fun h => by omega, unbox (hb1.alloc (by have := hb1.size; omega) _) (by simp)⟩, fun _ _ _ e => by cases e; exact Nat.le_refl _⟩
  have hpp : 1 ≤ p ∧ p ≤ 24 := by simpa [inB] using graphB_p h
  obtain ⟨pn, rfl⟩ : ∃ pn : Nat, p = (pn : Int) := ⟨p.toNat, by omega⟩
  have hL : lenO pn n F T G = pn := by simp [lenO, h]
  rw [hL]
  obtain ⟨⟨hp1, hp2⟩, hn1, hF, hT, hFT⟩ := ok_arcs h
  have HA : Hid ((∀ k, k < n → 0 ≤ F k ∧ F k < (pn : Int)) ∧ (∀ k, k < n → 0 ≤ T k ∧ T k < (pn : Int)) ∧ ∀ k, k < n → F k ≠ T k) := ⟨hF, hT, hFT⟩
  clear hL hF hT hFT hpp
  go_enter Try.func27, Try.ntmps27
  go_wp2_with (first | (go_at_call 48; refine (specGraphOk_any pn ao n cap F T G hn _ (hr.alloc _)).mono ?_; rintro e w1 ⟨rfl, hb1⟩; obtain ⟨hc, hf⟩ := bcell hb1) | (go_at_call 70; refine (l3Order_any pn ao n cap F T G hp1 hp2 hn1 HA.out.1 HA.out.2.1 HA.out.2.2 _ ((hr.alloc _).below hb1 (Nat.le_refl _))).mono ?_; rintro e w2 ⟨g, c, rfl, hg, hI, hb2, hrm⟩))
  go_ret
  exact ⟨⟨_, _, rfl, fun _ => ⟨g, rfl, by have := hb1.size; simp at this; omega, hI⟩, unbox (below_next hb1 (Nat.le_refl _) hb2) (by simp)⟩, fun _ _ _ e => by cases e; exact hrm⟩

theorem specOrder_any (p : Int) (ao : Option Addr) (n cap : Nat) (F T G : Nat → Int) (hn : n ≤ 1048576) (w : World) (hr : Row w ao n F T G) :
    Calls Try.prog 27 #[.agg #[.int .i64 p, .slice ao n cap]] w fun e w' => Ans w w' e (lenO p n F T G) (listO p n F T) := (specOrder_cap p ao n cap F T G hn w hr).mono (fun _ _ h => h.1)

set_option maxHeartbeats 2000000 in
theorem implOrder_any (p : Int) (ao : Option Addr) (n cap : Nat) (F T G : Nat → Int) (hn : n ≤ 1048576) (w : World) (hr : Row w ao n F T G) :
    Calls Try.prog 26 #[.agg #[.int .i64 p, .slice ao n cap]] w fun e w' => Ans w w' e (lenO p n F T G) (listO p n F T) := by
  rcases Bool.eq_false_or_eq_true (graphB p n F T G) with h | h
  rotate_left
  · have hL : lenO p n F T G = 0 := by simp [lenO, h]
    rw [hL]
    go_enter Try.func26, Try.ntmps26
    go_wp2_with (go_at_call 15; refine (implGraphOk_any p ao n cap F T G hn _ (hr.alloc _)).mono ?_; rintro e w1 ⟨rfl, hb1⟩)
    go_ret
    exact ⟨_, _, rfl, fun h => by omega, unbox (hb1.alloc (by have := hb1.size; omega) _) (by simp)⟩
  have hpp : 1 ≤ p ∧ p ≤ 24 := by simpa [inB] using graphB_p h
  obtain ⟨pn, rfl⟩ : ∃ pn : Nat, p = (pn : Int) := ⟨p.toNat, by omega⟩
  have hL : lenO pn n F T G = pn := by simp [lenO, h]
  rw [hL]
  obtain ⟨⟨hp1, hp2⟩, hn1, hF, hT, hFT⟩ := ok_arcs h
  have hfair : Fair (nbA F T n) := fair_nbA n (fun k hk => by have := hF k hk; have := hT k hk; have := hFT k hk; omega)
  have hwi : Within pn (nbA F T n) := within_nbA n (fun k hk => by have := hF k hk; have := hT k hk; omega)
  have hmo := fun W hr' => meshOf_any pn ao n cap F T G hp2 hn1 hF hT hFT W hr'
  have hli : listO pn n F T = (run3 pn (nbA F T n) pn).2.2 := by simp [listO]
  rw [hli]
  generalize nbA F T n = B at hfair hwi hmo ⊢
  have HF : Hid (Fair B ∧ Within pn B) := ⟨hfair, hwi⟩
  have HMO : Hid (∀ W, Row W ao n F T G → Calls Try.prog 67 #[.agg #[.int .i64 (pn : Int), .slice ao n cap]] W fun e w' => ∃ bm, e = .returned (.pointer (some ⟨bm, 0, none⟩)) ∧ W.heap.size ≤ bm ∧ MeshAt w' bm (pn : Int) B (fun _ => false) ∧ Below W.heap.size W w') := hmo
  clear hL hF hT hFT hpp hfair hwi hmo hli
  go_enter Try.func26, Try.ntmps26
  go_wp2_with fail
  refine (implGraphOk_any pn ao n cap F T G hn _ (hr.alloc _)).mono ?_
  rintro e w1 ⟨rfl, hb1⟩
  have hA1 := boxed hb1
  obtain ⟨x0, x1, xs⟩ := box2 hA1
  rw [h]
  go_wp2_with fail
  refine (HMO.out _ ((hr.alloc _).below hA1 (by simp))).mono ?_
  rintro e w2 ⟨bm, rfl, hbm, hM2, hb2⟩
  have hA2 := below_next hA1 (by simp) hb2
  clear x0 x1 hA1 hb1
  obtain ⟨x0, x1, xs2⟩ := box2 hA2
  have hml := VHas.lt hM2
  have hmk := make_ints pn (by omega)
  have hA3 := hA2.alloc (o := .cells (madeCells #[.int .i64 0] pn) 2) (by omega)
  have hM3 := hM2.alloc (.cells (madeCells #[.int .i64 0] pn) 2)
  have hI3 := made_ints w2 pn
  clear hb2 hM2
  go_wp2_with fail
  clear hmk x0 x1
  go_loopw [17] (fun i wr => ∃ k : Nat, k ≤ pn ∧ i = .int .i64 k ∧ MeshAt wr bm (pn : Int) (run3 pn B k).1 (run3 pn B k).2.1 ∧ IHas wr w2.heap.size pn (run3 pn B k).2.2 ∧ Below (w.heap.size + 1) (w.alloc (.cells #[.int .i64 (pn : Int), .slice ao n cap] 26)) wr) (fun i _ => pn - (intOf i).toNat)
  case atStart => exact ⟨0, Nat.zero_le _, rfl, hM3, hI3, hA3⟩
  case round =>
    clear hM3 hI3 hA3 hA2
    obtain ⟨k, hk, rfl, hM, hI, hA⟩ := hrel
    by_cases hlt : k < pn
    rotate_left
    · have hkp : k = pn := by omega
      subst hkp
      go_wp2
      go_ret
      exact ⟨_, _, rfl, fun _ => ⟨_, rfl, by omega, hI⟩, unbox hA (by omega)⟩
    have hlt' : (k : Int) < (pn : Int) := by omega
    have hpl := run3_place HF.out.1 hlt
    have hfk := run3_fair (p := pn) HF.out.1 k
    have hwk := within_run3 HF.out.2 k
    have e1 := run3_sq pn B k
    have e2 := run3_gn pn B k
    have e3 := run3_ls pn B k
    have hnx := next_any bm pn _ _ hp2 wr hM
    have E1 : Hid ((run3 pn B (k + 1)).1 = tk (run3 pn B k).1 (pick pn (run3 pn B k).1 (run3 pn B k).2.1 pn).1 ∧ (run3 pn B (k + 1)).2.1 = goneU (run3 pn B k).2.1 (pick pn (run3 pn B k).1 (run3 pn B k).2.1 pn).1 ∧ (run3 pn B (k + 1)).2.2 = fun j => if j = k then ((pick pn (run3 pn B k).1 (run3 pn B k).2.1 pn).1 : Int) else (run3 pn B k).2.2 j) := ⟨e1, e2, e3⟩
    clear e1 e2 e3
    generalize (pick pn (run3 pn B k).1 (run3 pn B k).2.1 pn).1 = a at hpl hnx E1
    go_wp2_with fail
    refine hnx.mono ?_
    rintro e w3 ⟨rfl, hb3⟩
    have hM3 := VHas.next hM hb3
    have hI3 := hI.below hb3 hI.lt
    have hA3 := below_next hA (by simp) hb3
    clear hM hI hA hb3 hnx
    have d0 := hI3.cell hlt
    have z0 := hI3.frozen k
    have hne : bm ≠ w2.heap.size := by omega
    have hM4 := VHas.other (i := k) hM3 hne (.int .i64 (a : Int))
    have hI4 := hI3.set k (a : Int)
    have hA4 := hA3.setCell (p := ⟨w2.heap.size, k, none⟩) (by simp; omega) (.int .i64 (a : Int))
    clear hM3 hI3 hA3
    go_wp2_with fail
    refine (takeAway_any bm pn a _ _ hp2 hpl hfk hwk _ hM4).mono ?_
    rintro e w5 ⟨rfl, hM5, hg5⟩
    have hI5 := hI4.grown hg5 (by simp; omega)
    have hA5 := hA4.trans (gr_below hg5 (by omega) (by have := hA4.size; simpa using this))
    clear hM4 hI4 hA4 hg5 d0 z0
    go_wp2
    go_roundw
    case rel => exact ⟨k + 1, by omega, by go_num, by rw [E1.out.1, E1.out.2.1]; exact hM5, by rw [E1.out.2.2]; exact hI5, hA5⟩
    case measure => simp [intOf]; omega

end Go.Proofs.Ytaddhiojahmbpaa
