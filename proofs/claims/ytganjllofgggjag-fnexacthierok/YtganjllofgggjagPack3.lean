/-
  Helpers, merged: OrdDoc, OrdL, OrdImpl, FillP, Edge, EList, FillS, Cmp, Sort.
-/
import Derived.Test.YtganjllofgggjagPack2
import Derived.Test.YtganjllofgggjagPack1
import Derived.Deep.AppendLies
import Derived.BigRegion
/-
  Order, the document's: the list in which the places are taken away.
-/
set_option linter.unusedVariables false
set_option linter.unusedSimpArgs false
namespace Go.Proofs.Ytganjllofgggjag
open Go.RowKit
attribute [local go_sem ↓] Go.wp_at_zero Go.wp_at_succ

def slen : Value → Nat
  | .slice _ n _ => n
  | _ => 0

/-- What stands while k places have been taken away: the list in block g, the square in bs, those that are gone in gb. -/
structure OS (base : Nat) (W0 : World) (p : Nat) (B : Nat → Nat → Bool) (bs gb g c k : Nat) (wr : World) : Prop where
  own : IOwn wr base g c k (run3 p B k).2.2
  sq : Sq wr bs p (run3 p B k).1
  gn : BHas wr gb p (run3 p B k).2.1
  bel : Below base W0 wr
theorem OS.next {base p bs gb g c k : Nat} {W0 wr w' : World} {B : Nat → Nat → Bool} (h : OS base W0 p B bs gb g c k wr) (hB : base ≤ W0.heap.size) (hb : Below wr.heap.size wr w') : OS base W0 p B bs gb g c k w' :=
  ⟨h.own.below hb h.own.lt, VHas.next h.sq hb, VHas.next h.gn hb, below_next h.bel hB hb⟩

theorem run3_sq (p : Nat) (B : Nat → Nat → Bool) (k : Nat) : (run3 p B (k + 1)).1 = tk (run3 p B k).1 (pick p (run3 p B k).1 (run3 p B k).2.1 p).1 := rfl
theorem run3_gn (p : Nat) (B : Nat → Nat → Bool) (k : Nat) : (run3 p B (k + 1)).2.1 = goneU (run3 p B k).2.1 (pick p (run3 p B k).1 (run3 p B k).2.1 p).1 := rfl
theorem run3_ls (p : Nat) (B : Nat → Nat → Bool) (k : Nat) : (run3 p B (k + 1)).2.2 = fun j => if j = k then ((pick p (run3 p B k).1 (run3 p B k).2.1 p).1 : Int) else (run3 p B k).2.2 j := rfl

/-- What the document's search for the next place holds: nothing yet, or the one that 'pick' tells. -/
def best (p : Nat) (B : Nat → Nat → Bool) (gone : Nat → Bool) (j : Nat) : Int := if noneB gone j then -1 else ((pick p B gone j).1 : Int)
def few (p : Nat) (B : Nat → Nat → Bool) (gone : Nat → Bool) (j : Nat) : Int := if noneB gone j then 0 else ((pick p B gone j).2 : Int)
theorem best_gone {p : Nat} {B : Nat → Nat → Bool} {gone : Nat → Bool} {j : Nat} (h : gone j = true) : best p B gone (j + 1) = best p B gone j ∧ few p B gone (j + 1) = few p B gone j := by
  have h1 : pick p B gone (j + 1) = pick p B gone j := by
    show (if gone j then pick p B gone j else _) = _
    rw [if_pos h]
  have h2 : noneB gone (j + 1) = noneB gone j := by simp [noneB, h]
  unfold best few
  rw [h1, h2]
  exact ⟨rfl, rfl⟩
theorem best_take {p : Nat} {B : Nat → Nat → Bool} {gone : Nat → Bool} {j : Nat} (hB : Fair B) (hj : j < p) (h : gone j = false) (hc : best p B gone j < 0 ∨ (cntB (B j) p : Int) < few p B gone j) : best p B gone (j + 1) = (j : Int) ∧ few p B gone (j + 1) = (cntB (B j) p : Int) := by
  have hlt : cntB (B j) p < (pick p B gone j).2 := by
    unfold best few at hc
    cases hn : noneB gone j
    · rw [hn] at hc
      simp at hc
      rcases hc with hc | hc
      · omega
      · exact hc
    · rw [pick_none j hn]
      exact cntB_less (i := j) hj (hB.2 j)
  have h1 : pick p B gone (j + 1) = (j, cntB (B j) p) := by
    show (if gone j then _ else if cntB (B j) p < (pick p B gone j).2 then (j, cntB (B j) p) else _) = _
    rw [if_neg (by rw [h]; simp), if_pos hlt]
  have h2 : noneB gone (j + 1) = false := by simp [noneB, h]
  unfold best few
  rw [h1, h2]
  exact ⟨rfl, rfl⟩
theorem best_stay {p : Nat} {B : Nat → Nat → Bool} {gone : Nat → Bool} {j : Nat} (h : gone j = false) (hc1 : ¬ best p B gone j < 0) (hc : ¬ (cntB (B j) p : Int) < few p B gone j) : best p B gone (j + 1) = best p B gone j ∧ few p B gone (j + 1) = few p B gone j := by
  have hn : noneB gone j = false := by
    cases hn : noneB gone j
    · rfl
    · simp [best, hn] at hc1
  unfold few at hc
  rw [hn] at hc
  simp at hc
  have h1 : pick p B gone (j + 1) = pick p B gone j := by
    show (if gone j then _ else if cntB (B j) p < (pick p B gone j).2 then (j, cntB (B j) p) else pick p B gone j) = _
    rw [if_neg (by rw [h]; simp), if_neg (by omega)]
  have h2 : noneB gone (j + 1) = false := by simp [noneB, h]
  unfold best few
  rw [h1, h2, hn]
  exact ⟨rfl, rfl⟩
theorem few_in {p : Nat} {B : Nat → Nat → Bool} {gone : Nat → Bool} (j : Nat) : 0 ≤ few p B gone j ∧ few p B gone j ≤ p := by
  unfold few
  have := pick_le (p := p) (B := B) (gone := gone) j
  split <;> omega

set_option maxHeartbeats 4000000 in
theorem l3Order_any (p : Nat) (ao : Option Addr) (n cap : Nat) (F T G : Nat → Int) (hp1 : 1 ≤ p) (hp : p ≤ 24) (hn : n ≤ 100) (hF : ∀ k, k < n → 0 ≤ F k ∧ F k < (p : Int)) (hT : ∀ k, k < n → 0 ≤ T k ∧ T k < (p : Int)) (hFT : ∀ k, k < n → F k ≠ T k) (w : World) (hr : Row w ao n F T G) :
    Calls Try.prog 51 #[.agg #[.int .i64 (p : Int), .slice ao n cap]] w fun e w' => ∃ g c, e = .returned (.slice (some ⟨g, 0, none⟩) p c) ∧ w.heap.size ≤ g ∧ IHas w' g p (run3 p (nbA F T n) p).2.2 ∧ Below w.heap.size w w' ∧ p ≤ c := by
  have hfair : Fair (nbA F T n) := fair_nbA n (fun k hk => by have := hF k hk; have := hT k hk; have := hFT k hk; omega)
  have hsqc := fun W hr' => l3Square_any p ao n cap F T G hp1 hp hn hF hT hFT W hr'
  generalize nbA F T n = B at hfair hsqc ⊢
  have HF : Hid (Fair B) := hfair
  have HSQ : Hid (∀ W, Row W ao n F T G → Calls Try.prog 72 #[.agg #[.int .i64 (p : Int), .slice ao n cap]] W fun e w' => e = .returned (.slice (some ⟨W.heap.size + 1, 0, none⟩) (p * p) (p * p)) ∧ Sq w' (W.heap.size + 1) p B ∧ Below W.heap.size W w') := hsqc
  clear hfair hsqc hF hT hFT
  go_enter Try.func51, Try.ntmps51
  go_wp2_with fail
  refine (HSQ.out _ (hr.alloc _)).mono ?_
  rintro e w1 ⟨rfl, hsq1, hb1⟩
  have hA1 := boxed hb1
  obtain ⟨x0, x1, xs⟩ := box2 hA1
  simp only [World.size_alloc] at hsq1 ⊢
  have hs1 := VHas.lt hsq1
  have hmk := make_bools p (by omega)
  go_wp2_with fail
  clear hmk
  have hO : OS (w.heap.size + 1) (w.alloc (.cells #[.int .i64 (p : Int), .slice ao n cap] 45)) p B (w.heap.size + 1 + 1) w1.heap.size (w1.heap.size + 1) 0 0 ((w1.alloc (.cells (madeCells #[.bool false] p) 4)).alloc (.cells #[] 2)) := by
    refine ⟨?_, ?_, ?_, (hA1.alloc (by omega) _).alloc (by simp; omega) _⟩
    · simpa using IOwn.empty (w1.alloc (.cells (madeCells #[.bool false] p) 4)) (base := w.heap.size + 1) (by simp; omega) _
    · exact (hsq1.alloc _).alloc _
    · exact (made_bools w1 p).alloc _
  clear hsq1 hb1 x0 x1
  go_loopw [5] (fun d wr => ∃ k g c : Nat, k ≤ p ∧ d = .slice (some ⟨g, 0, none⟩) k c ∧ OS (w.heap.size + 1) (w.alloc (.cells #[.int .i64 (p : Int), .slice ao n cap] 45)) p B (w.heap.size + 1 + 1) w1.heap.size g c k wr ∧ g ≠ (w.heap.size + 1 + 1) ∧ g ≠ w1.heap.size) (fun d _ => p - slen d)
  case atStart => exact ⟨0, _, 0, Nat.zero_le _, rfl, hO, by omega, by omega⟩
  case round =>
    clear hO
    obtain ⟨k, g, c, hk, rfl, hS, hg1, hg2⟩ := hrel
    obtain ⟨x0, x1, xs2⟩ := box2 hS.bel
    by_cases hlt : k < p
    rotate_left
    · have hkp : k = p := by omega
      subst hkp
      go_wp2
      go_ret
      exact ⟨g, c, rfl, by have := hS.own.base; omega, hS.own.has, unbox hS.bel (by omega), hS.own.room⟩
    have hlt' : (k : Int) < (p : Int) := by omega
    have hgsz := hS.own.lt
    have hgb0 := hS.own.base
    have hfk := run3_fair (p := p) HF.out k
    have hpl := run3_place HF.out hlt
    have hnn := (run3_gone HF.out k (by omega)).2 hlt
    have HK : Hid (Fair (run3 p B k).1 ∧ (pick p (run3 p B k).1 (run3 p B k).2.1 p).1 < p ∧ noneB (run3 p B k).2.1 p = false) := ⟨hfk, hpl, hnn⟩
    clear hfk hpl hnn
    go_wp2
    go_loopw [6, 7, 8] (fun x y z wr2 => ∃ j : Nat, j ≤ p ∧ x = .int .i64 (best p (run3 p B k).1 (run3 p B k).2.1 j) ∧ y = .int .i64 (few p (run3 p B k).1 (run3 p B k).2.1 j) ∧ z = .int .i64 j ∧ OS (w.heap.size + 1) (w.alloc (.cells #[.int .i64 (p : Int), .slice ao n cap] 45)) p B (w.heap.size + 1 + 1) w1.heap.size g c k wr2) (fun _ _ z _ => p - (intOf z).toNat)
    case atStart => exact ⟨0, Nat.zero_le _, rfl, rfl, rfl, hS⟩
    case round =>
      clear hS x0 x1 xs2
      obtain ⟨j, hj, rfl, rfl, rfl, hS⟩ := hrel
      obtain ⟨x0, x1, xs2⟩ := box2 hS.bel
      by_cases hltj : j < p
      · have hltj' : (j : Int) < (p : Int) := by omega
        have d0 := VHas.cell hS.gn hltj
        have hfw := few_in (p := p) (B := (run3 p B k).1) (gone := (run3 p B k).2.1) j
        cases hgj : (run3 p B k).2.1 j
        · rw [hgj] at d0
          have hcl := cntB_le ((run3 p B k).1 j) p
          have hnb := l3Neighbours_any (w.heap.size + 1 + 1) p j _ hp hltj wr hS.sq
          by_cases hc1 : best p (run3 p B k).1 (run3 p B k).2.1 j < 0
          · have hbt := best_take (p := p) HK.out.1 hltj hgj (Or.inl hc1)
            have HBT : Hid (best p (run3 p B k).1 (run3 p B k).2.1 (j + 1) = (j : Int) ∧ few p (run3 p B k).1 (run3 p B k).2.1 (j + 1) = (cntB ((run3 p B k).1 j) p : Int)) := hbt
            clear hbt
            go_wp2_with (go_at_call 73; refine hnb.mono ?_; rintro e w2 ⟨g2, c2, rfl, _, _, hb2⟩)
            go_roundw
            case rel => exact ⟨j + 1, by omega, by rw [HBT.out.1], by rw [HBT.out.2], by go_num, hS.next (by simp) hb2⟩
            case measure => simp [intOf]; omega
          · by_cases hc2 : (cntB ((run3 p B k).1 j) p : Int) < few p (run3 p B k).1 (run3 p B k).2.1 j
            · have hbt := best_take (p := p) HK.out.1 hltj hgj (Or.inr hc2)
              have HBT : Hid (best p (run3 p B k).1 (run3 p B k).2.1 (j + 1) = (j : Int) ∧ few p (run3 p B k).1 (run3 p B k).2.1 (j + 1) = (cntB ((run3 p B k).1 j) p : Int)) := hbt
              clear hbt
              go_wp2_with (go_at_call 73; refine hnb.mono ?_; rintro e w2 ⟨g2, c2, rfl, _, _, hb2⟩)
              go_roundw
              case rel => exact ⟨j + 1, by omega, by rw [HBT.out.1], by rw [HBT.out.2], by go_num, hS.next (by simp) hb2⟩
              case measure => simp [intOf]; omega
            · have hbt := best_stay (p := p) hgj hc1 hc2
              have HBT : Hid (best p (run3 p B k).1 (run3 p B k).2.1 (j + 1) = best p (run3 p B k).1 (run3 p B k).2.1 j ∧ few p (run3 p B k).1 (run3 p B k).2.1 (j + 1) = few p (run3 p B k).1 (run3 p B k).2.1 j) := hbt
              clear hbt
              go_wp2_with (go_at_call 73; refine hnb.mono ?_; rintro e w2 ⟨g2, c2, rfl, _, _, hb2⟩)
              go_roundw
              case rel => exact ⟨j + 1, by omega, by rw [HBT.out.1], by rw [HBT.out.2], by go_num, hS.next (by simp) hb2⟩
              case measure => simp [intOf]; omega
        · rw [hgj] at d0
          have hbt := best_gone (p := p) (B := (run3 p B k).1) hgj
          have HBT : Hid (best p (run3 p B k).1 (run3 p B k).2.1 (j + 1) = best p (run3 p B k).1 (run3 p B k).2.1 j ∧ few p (run3 p B k).1 (run3 p B k).2.1 (j + 1) = few p (run3 p B k).1 (run3 p B k).2.1 j) := hbt
          clear hbt
          go_wp2
          go_roundw
          case rel => exact ⟨j + 1, by omega, by rw [HBT.out.1], by rw [HBT.out.2], by go_num, hS⟩
          case measure => simp [intOf]; omega
      have hjp : j = p := by omega
      subst hjp
      obtain ⟨hfk, hpl, hnn⟩ := HK.out
      have hbe : best j (run3 j B k).1 (run3 j B k).2.1 j = ((pick j (run3 j B k).1 (run3 j B k).2.1 j).1 : Int) := by simp [best, hnn]
      rw [hbe]
      have e1 := run3_sq j B k
      have e2 := run3_gn j B k
      have e3 := run3_ls j B k
      clear hbe HK hnn
      generalize (pick j (run3 j B k).1 (run3 j B k).2.1 j).1 = a at hpl e1 e2 e3 ⊢
      have hpl' : (a : Int) < (j : Int) := by omega
      have d0 := VHas.cell hS.gn hpl
      have z0 := VHas.frozen hS.gn a
      have hsl := VHas.lt hS.sq
      have hgl := VHas.lt hS.gn
      have E1 : Hid ((run3 j B (k + 1)).1 = tk (run3 j B k).1 a) := e1
      have E2 : Hid ((run3 j B (k + 1)).2.1 = goneU (run3 j B k).2.1 a) := e2
      have E3 : Hid ((run3 j B (k + 1)).2.2 = fun i => if i = k then (a : Int) else (run3 j B k).2.2 i) := e3
      clear e1 e2 e3
      have hsg : (w.heap.size + 1 + 1) ≠ w1.heap.size := by omega
      have hg1' : gr_setCell wr w1.heap.size a (.bool true) = gr_setCell wr w1.heap.size a (.bool true) := rfl
      have G1 := BHas.put hS.gn a true
      have G2 := VHas.other (i := a) hS.sq hsg (.bool true)
      have G3 := hS.own.grown (gr_setCell wr w1.heap.size a (.bool true)) hg2
      have G4 := hS.bel.setCell (p := ⟨w1.heap.size, a, none⟩) (by simp; omega) (.bool true)
      have x0' : (wr.setCell ⟨w1.heap.size, a, none⟩ (.bool true)).cell? ⟨w.heap.size, 0, none⟩ = some (.int .i64 (j : Int)) := (box2 G4).1
      clear hg1'
      go_wp2_with fail
      refine (l3Take_any _ j a _ hp hpl hfk _ G2).mono ?_
      rintro e w3 ⟨rfl, hq3, hg3⟩
      have hs3 := hg3.size
      rw [show (wr.setCell ⟨w1.heap.size, a, none⟩ (.bool true)).heap.size = wr.heap.size by simp [World.setCell]] at hs3
      have K1 := VHas.grown G1 hg3 (by simp; omega)
      have K3 := G3.grown hg3 hg1
      have K4 := G4.trans (gr_below hg3 (by omega) (by have := G4.size; simpa using this))
      obtain ⟨y0, y1, ys⟩ := box2 K4
      have hgl3 := K3.lt
      clear G1 G2 G3 G4 hg3 x0' d0 z0 x0 x1 hS
      go_wp2_with (at_builtin; refine wpList_append_int rfl _ _ rfl (w.heap.size + 1) g c k _ rfl (by exact K3.below ((Below.refl _ _).alloc (Nat.le_refl _) _) hgl3) ⟨w3.heap.size, 0, none⟩ 1 (a : Int) rfl (by simp [go_sem]) (by omega) (by simp; omega) ?_; intro g' c' w4 hown4 hgrow4 hat4)
      have hal := (Below.refl w3.heap.size w3).alloc (Nat.le_refl _) (.cells #[.int .i64 (a : Int)] 2)
      have R : OS (w.heap.size + 1) (w.alloc (.cells #[.int .i64 (j : Int), .slice ao n cap] 45)) j B (w.heap.size + 1 + 1) w1.heap.size g' c' (k + 1) w4 := by
        refine ⟨?_, ?_, ?_, (K4.trans (hal.mono (by omega))).grown hgrow4 (by simp; omega) (fun q hq => by cases hq; omega)⟩
        · rw [E3.out]
          exact hown4 _ (fun q hq => if_neg (by omega)) (if_pos rfl)
        · rw [E1.out]
          exact VHas.grown (VHas.next hq3 hal) hgrow4 (by simp; omega)
        · rw [E2.out]
          exact (VHas.grown (VHas.next K1 hal) hgrow4 (by simp; omega)).congr (fun q _ => by unfold goneU; rfl)
      have hne : g' ≠ w.heap.size + 1 + 1 ∧ g' ≠ w1.heap.size := by
        rcases hat4 with e | e
        · rw [e]; exact ⟨hg1, hg2⟩
        · simp at e; omega
      clear K1 K3 K4 hq3 hown4 hgrow4 hat4 y0 y1
      go_wp2
      go_roundw
      case rel => exact ⟨k + 1, g', c', by omega, rfl, R, hne.1, hne.2⟩
      case measure => simp [slen]; omega

end Go.Proofs.Ytganjllofgggjag

/-
  How long an order is, and which: the plain part.
-/
set_option linter.unusedVariables false
set_option linter.unusedSimpArgs false
namespace Go.Proofs.Ytganjllofgggjag
open Go.RowKit
attribute [local go_sem ↓] Go.wp_at_zero Go.wp_at_succ

def lenO (p : Int) (n : Nat) (F T G : Nat → Int) : Nat := if graphB p n F T G then p.toNat else 0
def listO (p : Int) (n : Nat) (F T : Nat → Int) : Nat → Int := (run3 p.toNat (nbA F T n) p.toNat).2.2
theorem lenO_le (p : Int) (n : Nat) (F T G : Nat → Int) : lenO p n F T G ≤ 24 := by
  unfold lenO
  split
  · next h =>
    have := graphB_p h
    simp [inB] at this
    omega
  · omega
theorem ok_arcs {p : Nat} {n : Nat} {F T G : Nat → Int} (h : graphB (p : Int) n F T G = true) : (1 ≤ p ∧ p ≤ 24) ∧ n ≤ 100 ∧ (∀ k, k < n → 0 ≤ F k ∧ F k < (p : Int)) ∧ (∀ k, k < n → 0 ≤ T k ∧ T k < (p : Int)) ∧ ∀ k, k < n → F k ≠ T k := by
  have h1 := graphB_p h
  have h2 := graphB_arcs h
  have he : ∀ k, k < n → (0 ≤ F k ∧ F k < (p : Int)) ∧ (0 ≤ T k ∧ T k < (p : Int)) ∧ F k ≠ T k := fun k hk => by
    have := (arcsB_each n h2.2 k hk).1
    simp [arcB, inB] at this
    omega
  simp [inB] at h1
  exact ⟨by omega, h2.1, fun k hk => (he k hk).1, fun k hk => (he k hk).2.1, fun k hk => (he k hk).2.2⟩

end Go.Proofs.Ytganjllofgggjag

/-
  Order, the document's and the program's, at every map of at most 2^20 arcs: the same list, in new memory.
-/
set_option linter.unusedVariables false
set_option linter.unusedSimpArgs false
namespace Go.Proofs.Ytganjllofgggjag
open Go.RowKit
attribute [local go_sem ↓] Go.wp_at_zero Go.wp_at_succ

set_option maxHeartbeats 2000000 in
theorem next_any (bm p : Nat) (B : Nat → Nat → Bool) (gone : Nat → Bool) (hp : p ≤ 24) (w : World) (hM : MeshAt w bm (p : Int) B gone) :
    Calls Try.prog 81 #[.pointer (some ⟨bm, 0, none⟩)] w fun e w' => e = .returned (.int .i64 ((pick p B gone p).1 : Int)) ∧ Below w.heap.size w w' := by
  have hml := VHas.lt hM
  have c0 := hM.places
  go_enter Try.func81, Try.ntmps81
  go_wp2
  go_quiet (fail)
  have hMq : MeshAt (w.drewN nq) bm (p : Int) B gone := VHas.of_block hM rfl
  have hbq : Below w.heap.size w (w.drewN nq) := below_drewN (Below.refl _ _) nq
  generalize w.drewN nq = wq at hMq hbq ⊢
  have d0 := hMq.places
  clear c0
  go_wp2
  clear d0
  go_loopw [3, 4, 15] (fun x y i wr => ∃ j : Nat, j ≤ p ∧ x = .int .i64 ((pick p B gone j).1 : Int) ∧ y = .int .i64 ((pick p B gone j).2 : Int) ∧ i = .int .i64 j ∧ MeshAt wr bm (p : Int) B gone ∧ Below w.heap.size w wr) (fun _ _ i _ => p - (intOf i).toNat)
  case atStart => exact ⟨0, Nat.zero_le _, rfl, rfl, rfl, hMq, hbq⟩
  case round =>
    clear hMq hbq
    obtain ⟨j, hj, rfl, rfl, rfl, hMj, hbel⟩ := hrel
    have hple := pick_le (p := p) (B := B) (gone := gone) j
    by_cases hlt : j < p
    rotate_left
    · have hjp : j = p := by omega
      subst hjp
      go_wp2
      go_ret
      exact ⟨rfl, hbel⟩
    have hlt' : (j : Int) < (p : Int) := by omega
    have h24 : (j : Int) < 24 := by omega
    have c1 := hMj.gone (show j < 24 by omega)
    cases hg : gone j
    · rw [hg] at c1
      have hct := countTo_any bm p j (pick p B gone j).2 B gone hp (by omega) (by omega) wr hMj
      by_cases hc : cntB (B j) p < (pick p B gone j).2
      · have hpk : Hid (pick p B gone (j + 1) = (j, cntB (B j) p)) := by
          show (if gone j then _ else if cntB (B j) p < (pick p B gone j).2 then (j, cntB (B j) p) else _) = _
          rw [if_neg (by rw [hg]; simp), if_pos hc]
        rw [Nat.min_eq_left (Nat.le_of_lt hc)] at hct
        have hc' : (cntB (B j) p : Int) < ((pick p B gone j).2 : Int) := by omega
        go_wp2_with (go_at_call 99; refine hct.mono ?_; rintro e w2 ⟨rfl, hb2⟩)
        go_roundw
        case rel => exact ⟨j + 1, by omega, by rw [hpk.out], by rw [hpk.out], by go_num, VHas.next hMj hb2, below_next hbel (Nat.le_refl _) hb2⟩
        case measure => simp [intOf]; omega
      · have hpk : Hid (pick p B gone (j + 1) = pick p B gone j) := by
          show (if gone j then _ else if cntB (B j) p < (pick p B gone j).2 then (j, cntB (B j) p) else pick p B gone j) = _
          rw [if_neg (by rw [hg]; simp), if_neg hc]
        rw [Nat.min_eq_right (Nat.le_of_not_lt hc)] at hct
        go_wp2_with (go_at_call 99; refine hct.mono ?_; rintro e w2 ⟨rfl, hb2⟩)
        go_roundw
        case rel => exact ⟨j + 1, by omega, by rw [hpk.out], by rw [hpk.out], by go_num, VHas.next hMj hb2, below_next hbel (Nat.le_refl _) hb2⟩
        case measure => simp [intOf]; omega
    · rw [hg] at c1
      have hpk : Hid (pick p B gone (j + 1) = pick p B gone j) := by
        show (if gone j then pick p B gone j else _) = _
        rw [if_pos hg]
      go_wp2
      go_roundw
      case rel => exact ⟨j + 1, by omega, by rw [hpk.out], by rw [hpk.out], by go_num, hMj, hbel⟩
      case measure => simp [intOf]; omega
set_option maxHeartbeats 2000000 in
theorem implOrder_any (p : Int) (ao : Option Addr) (n cap : Nat) (F T G : Nat → Int) (hn : n ≤ 1048576) (w : World) (hr : Row w ao n F T G) :
    Calls Try.prog 55 #[.agg #[.int .i64 p, .slice ao n cap]] w fun e w' => Ans w w' e (lenO p n F T G) (listO p n F T) := by
  rcases Bool.eq_false_or_eq_true (graphB p n F T G) with h | h
  rotate_left
  · have hL : lenO p n F T G = 0 := by simp [lenO, h]
    rw [hL]
    go_enter Try.func55, Try.ntmps55
    go_wp2_with (go_at_call 54; refine (implGraphOk_any p ao n cap F T G hn _ (hr.alloc _)).mono ?_; rintro e w1 ⟨rfl, hb1⟩)
    go_ret
    exact ⟨_, _, rfl, fun h => by omega, unbox (hb1.alloc (by have := hb1.size; omega) _) (by simp)⟩
  have hpp : 1 ≤ p ∧ p ≤ 24 := by simpa [inB] using graphB_p h
  obtain ⟨pn, rfl⟩ : ∃ pn : Nat, p = (pn : Int) := ⟨p.toNat, by omega⟩
  have hL : lenO pn n F T G = pn := by simp [lenO, h]
  rw [hL]
  obtain ⟨⟨hp1, hp2⟩, hn1, hF, hT, hFT⟩ := ok_arcs h
  have hfair : Fair (nbA F T n) := fair_nbA n (fun k hk => by have := hF k hk; have := hT k hk; have := hFT k hk; omega)
  have hwi : Within pn (nbA F T n) := within_nbA n (fun k hk => by have := hF k hk; have := hT k hk; omega)
  have hmo := fun W hr' => meshOf_any pn ao n cap F T G hp2 hn1 hF hT hFT W hr'
  have hli : listO pn n F T = (run3 pn (nbA F T n) pn).2.2 := by simp [listO]
  rw [hli]
  generalize nbA F T n = B at hfair hwi hmo ⊢
  have HF : Hid (Fair B ∧ Within pn B) := ⟨hfair, hwi⟩
  have HMO : Hid (∀ W, Row W ao n F T G → Calls Try.prog 80 #[.agg #[.int .i64 (pn : Int), .slice ao n cap]] W fun e w' => ∃ bm, e = .returned (.pointer (some ⟨bm, 0, none⟩)) ∧ W.heap.size ≤ bm ∧ MeshAt w' bm (pn : Int) B (fun _ => false) ∧ Below W.heap.size W w') := hmo
  clear hL hF hT hFT hpp hfair hwi hmo hli
  go_enter Try.func55, Try.ntmps55
  go_wp2_with fail
  refine (implGraphOk_any pn ao n cap F T G hn _ (hr.alloc _)).mono ?_
  rintro e w1 ⟨rfl, hb1⟩
  have hA1 := boxed hb1
  obtain ⟨x0, x1, xs⟩ := box2 hA1
  rw [h]
  go_wp2_with fail
  refine (HMO.out _ ((hr.alloc _).below hA1 (by simp))).mono ?_
  rintro e w2 ⟨bm, rfl, hbm, hM2, hb2⟩
  have hA2 := below_next hA1 (by simp) hb2
  clear x0 x1 hA1 hb1
  obtain ⟨x0, x1, xs2⟩ := box2 hA2
  have hml := VHas.lt hM2
  have hmk := make_ints pn (by omega)
  have hA3 := hA2.alloc (o := .cells (madeCells #[.int .i64 0] pn) 2) (by omega)
  have hM3 := hM2.alloc (.cells (madeCells #[.int .i64 0] pn) 2)
  have hI3 := made_ints w2 pn
  clear hb2 hM2
  go_wp2_with fail
  clear hmk x0 x1
  go_loopw [17] (fun i wr => ∃ k : Nat, k ≤ pn ∧ i = .int .i64 k ∧ MeshAt wr bm (pn : Int) (run3 pn B k).1 (run3 pn B k).2.1 ∧ IHas wr w2.heap.size pn (run3 pn B k).2.2 ∧ Below (w.heap.size + 1) (w.alloc (.cells #[.int .i64 (pn : Int), .slice ao n cap] 45)) wr) (fun i _ => pn - (intOf i).toNat)
  case atStart => exact ⟨0, Nat.zero_le _, rfl, hM3, hI3, hA3⟩
  case round =>
    clear hM3 hI3 hA3 hA2
    obtain ⟨k, hk, rfl, hM, hI, hA⟩ := hrel
    by_cases hlt : k < pn
    rotate_left
    · have hkp : k = pn := by omega
      subst hkp
      go_wp2
      go_ret
      exact ⟨_, _, rfl, fun _ => ⟨_, rfl, by omega, hI⟩, unbox hA (by omega)⟩
    have hlt' : (k : Int) < (pn : Int) := by omega
    have hpl := run3_place HF.out.1 hlt
    have hfk := run3_fair (p := pn) HF.out.1 k
    have hwk := within_run3 HF.out.2 k
    have e1 := run3_sq pn B k
    have e2 := run3_gn pn B k
    have e3 := run3_ls pn B k
    have hnx := next_any bm pn _ _ hp2 wr hM
    have E1 : Hid ((run3 pn B (k + 1)).1 = tk (run3 pn B k).1 (pick pn (run3 pn B k).1 (run3 pn B k).2.1 pn).1 ∧ (run3 pn B (k + 1)).2.1 = goneU (run3 pn B k).2.1 (pick pn (run3 pn B k).1 (run3 pn B k).2.1 pn).1 ∧ (run3 pn B (k + 1)).2.2 = fun j => if j = k then ((pick pn (run3 pn B k).1 (run3 pn B k).2.1 pn).1 : Int) else (run3 pn B k).2.2 j) := ⟨e1, e2, e3⟩
    clear e1 e2 e3
    generalize (pick pn (run3 pn B k).1 (run3 pn B k).2.1 pn).1 = a at hpl hnx E1
    go_wp2_with fail
    refine hnx.mono ?_
    rintro e w3 ⟨rfl, hb3⟩
    have hM3 := VHas.next hM hb3
    have hI3 := hI.below hb3 hI.lt
    have hA3 := below_next hA (by simp) hb3
    clear hM hI hA hb3 hnx
    have d0 := hI3.cell hlt
    have z0 := hI3.frozen k
    have hne : bm ≠ w2.heap.size := by omega
    have hM4 := VHas.other (i := k) hM3 hne (.int .i64 (a : Int))
    have hI4 := hI3.set k (a : Int)
    have hA4 := hA3.setCell (p := ⟨w2.heap.size, k, none⟩) (by simp; omega) (.int .i64 (a : Int))
    clear hM3 hI3 hA3
    go_wp2_with fail
    refine (takeAway_any bm pn a _ _ hp2 hpl hfk hwk _ hM4).mono ?_
    rintro e w5 ⟨rfl, hM5, hg5⟩
    have hI5 := hI4.grown hg5 (by simp; omega)
    have hA5 := hA4.trans (gr_below hg5 (by omega) (by have := hA4.size; simpa using this))
    clear hM4 hI4 hA4 hg5 d0 z0
    go_wp2
    go_roundw
    case rel => exact ⟨k + 1, by omega, by go_num, by rw [E1.out.1, E1.out.2.1]; exact hM5, by rw [E1.out.2.2]; exact hI5, hA5⟩
    case measure => simp [intOf]; omega

end Go.Proofs.Ytganjllofgggjag

/-
  The fill, the plain part: the squares while places are taken away in an order, the edges in their order, the edges as they come, and that a sorted list of the ones is the other.
-/
set_option linter.unusedVariables false
set_option linter.unusedSimpArgs false
namespace Go.Proofs.Ytganjllofgggjag

theorem sn_mem {P : Nat → Int} : ∀ k q, sn P k q = true ↔ ∃ j, j < k ∧ P j = (q : Int)
  | 0, q => by simp [sn]
  | k + 1, q => by
    rw [sn_succ, Bool.or_eq_true, sn_mem k q, beq_iff_eq]
    constructor
    · rintro (h | ⟨j, h1, h2⟩)
      · exact ⟨k, by omega, h⟩
      · exact ⟨j, by omega, h2⟩
    · rintro ⟨j, h1, h2⟩
      by_cases e : j = k
      · subst e; exact Or.inl h2
      · exact Or.inr ⟨j, by omega, h2⟩
theorem each_in {m : Nat} {P : Nat → Int} : ∀ n, eachB m P n = true → ∀ k, k < n → (0 ≤ P k ∧ P k < (m : Int)) ∧ sn P k (P k).toNat = false
  | 0, _, k, hk => by omega
  | n + 1, h, k, hk => by
    simp only [eachB, Bool.and_eq_true] at h
    by_cases e : k = n
    · subst e
      have h1 : 0 ≤ P k ∧ P k ≤ (m : Int) - 1 := by simpa [inB] using h.2.1
      exact ⟨by omega, by simpa using h.2.2⟩
    · exact each_in n h.1 k (by omega)
theorem each_inj {m n : Nat} {P : Nat → Int} (h : eachB m P n = true) {i j : Nat} (hi : i < n) (hj : j < n) (e : P i = P j) : i = j := by
  have key : ∀ a b, a < b → b < n → P a ≠ P b := fun a b hab hb e => by
    have h1 := each_in n h b hb
    have : sn P b (P b).toNat = true := (sn_mem b _).2 ⟨a, hab, by omega⟩
    rw [h1.2] at this; cases this
  rcases Nat.lt_trichotomy i j with hl | hl | hl
  · exact absurd e (key i j hl hj)
  · exact hl
  · exact absurd e.symm (key j i hl hi)
theorem rk_is {m : Nat} {P : Nat → Int} (z : Int) : ∀ n, eachB m P n = true → ∀ h, h < n → rk P z n (P h).toNat = (h : Int)
  | 0, _, h, hh => by omega
  | n + 1, he, h, hh => by
    have h0 := each_in (n + 1) he h hh
    show (if P n = (((P h).toNat : Nat) : Int) then (n : Int) else rk P z n (P h).toNat) = (h : Int)
    by_cases e : h = n
    · subst e; rw [if_pos (by omega)]
    · rw [if_neg (fun x => e (each_inj he hh (Nat.lt_succ_self n) (by omega)))]
      simp only [eachB, Bool.and_eq_true] at he
      exact rk_is z n he.1 h (by omega)
/-- Each place has its rank. -/
theorem rk_of {n : Nat} {P : Nat → Int} (h : eachB n P n = true) (z : Int) {q : Nat} (hq : q < n) : ∃ k, k < n ∧ P k = (q : Int) ∧ rk P z n q = (k : Int) := by
  obtain ⟨k, hk, e⟩ := (sn_mem n q).1 (each_all h q hq)
  refine ⟨k, hk, e, ?_⟩
  have := rk_is z n h k hk
  rw [e] at this
  simpa using this

/-- The square when k places have been taken away. -/
def sqO (B : Nat → Nat → Bool) (P : Nat → Int) : Nat → Nat → Nat → Bool
  | 0 => B
  | k + 1 => tk (sqO B P k) (P k).toNat
theorem sqO_fair {B : Nat → Nat → Bool} (h : Fair B) (P : Nat → Int) : ∀ k, Fair (sqO B P k)
  | 0 => h
  | k + 1 => fair_tk (sqO_fair h P k) _
theorem sqO_within {p : Nat} {B : Nat → Nat → Bool} (h : Within p B) (P : Nat → Int) : ∀ k, Within p (sqO B P k)
  | 0 => h
  | k + 1 => within_tk (sqO_within h P k) _
theorem sqO_gone {B : Nat → Nat → Bool} (hB : Fair B) (P : Nat → Int) : ∀ k j, j < k → ∀ y, sqO B P k (P j).toNat y = false
  | 0, j, hj, y => by omega
  | k + 1, j, hj, y => by
    show tk (sqO B P k) (P k).toNat (P j).toNat y = false
    unfold tk
    by_cases e : j = k
    · subst e; rw [if_pos (Or.inl rfl)]
    · have h1 := sqO_gone hB P k j (by omega)
      split
      · rfl
      · rw [h1 y, (sqO_fair hB P k).1, h1]; rfl

abbrev Pr : Type := Int × Int
def lt2 (a b : Pr) : Prop := upB a.1 a.2 b.1 b.2 = true
theorem lt2_iff (a b : Pr) : lt2 a b ↔ a.1 < b.1 ∨ (a.1 = b.1 ∧ a.2 < b.2) := by
  unfold lt2 upB; simp
theorem lt2_irr (a : Pr) : ¬ lt2 a a := by rw [lt2_iff]; omega
theorem lt2_trans {a b c : Pr} (h1 : lt2 a b) (h2 : lt2 b c) : lt2 a c := by rw [lt2_iff] at *; omega
theorem lt2_tot {a b : Pr} (h1 : ¬ lt2 a b) (h2 : ¬ lt2 b a) : a = b := by
  rw [lt2_iff] at *
  have h3 : a.1 = b.1 := by omega
  have h4 : a.2 = b.2 := by omega
  exact Prod.ext h3 h4
theorem le2_trans {a b c : Pr} (h1 : ¬ lt2 b a) (h2 : ¬ lt2 c b) : ¬ lt2 c a := by rw [lt2_iff] at *; omega
/-- In their order. -/
def Srt (l : List Pr) : Prop := l.Pairwise (fun a b => ¬ lt2 b a)
theorem srt_unique : ∀ (l1 l2 : List Pr), l1.Pairwise lt2 → Srt l2 → l2.Nodup → (∀ x, x ∈ l1 ↔ x ∈ l2) → l1 = l2
  | [], l2, _, _, _, h => by
    cases l2 with
    | nil => rfl
    | cons b bs => exact absurd ((h b).2 (by simp)) (by simp)
  | a :: xs, [], _, _, _, h => absurd ((h a).1 (by simp)) (by simp)
  | a :: xs, b :: bs, h1, h2, h3, h => by
    rw [List.pairwise_cons] at h1
    unfold Srt at h2
    rw [List.pairwise_cons] at h2
    rw [List.nodup_cons] at h3
    have hab : a = b := by
      by_cases e : a = b
      · exact e
      · have x1 : a ∈ bs := by
          have := (h a).1 (by simp)
          simp at this
          exact this.resolve_left e
        have x2 : b ∈ xs := by
          have := (h b).2 (by simp)
          simp at this
          exact this.resolve_left (fun x => e x.symm)
        exact absurd (h1.1 b x2) (h2.1 a x1)
    subst hab
    rw [srt_unique xs bs h1.2 h2.2 h3.2 (fun x => ?_)]
    constructor
    · intro hx
      have := (h x).1 (by simp [hx])
      simp at this
      rcases this with e | e
      · subst e; exact absurd (h1.1 x hx) (lt2_irr x)
      · exact e
    · intro hx
      have := (h x).2 (by simp [hx])
      simp at this
      rcases this with e | e
      · subst e; exact absurd hx h3.1
      · exact e

section
variable (B : Nat → Nat → Bool) (P : Nat → Int) (p : Nat)
/-- The edges of rank r to ranks below h, in their order. -/
def rowS (r : Nat) : Nat → List Pr
  | 0 => []
  | h + 1 => rowS r h ++ (if r < h ∧ sqO B P r (P r).toNat (P h).toNat = true then [((r : Int), (h : Int))] else [])
def allS : Nat → List Pr
  | 0 => []
  | r + 1 => allS r ++ rowS B P r p
/-- The edges of rank r as they come: by places. -/
def rowU (r k : Nat) : List Pr := (visF (sqO B P r (P r).toNat) k).map (fun q => ((r : Int), rk P (-1) p q))
def allU : Nat → List Pr
  | 0 => []
  | r + 1 => allU r ++ rowU B P p r p
end
variable {B : Nat → Nat → Bool} {P : Nat → Int} {p : Nat}
theorem mem_rowS (r : Nat) (x : Pr) : ∀ k, x ∈ rowS B P r k ↔ ∃ h, h < k ∧ r < h ∧ sqO B P r (P r).toNat (P h).toNat = true ∧ x = ((r : Int), (h : Int))
  | 0 => by simp [rowS]
  | k + 1 => by
    show x ∈ rowS B P r k ++ _ ↔ _
    rw [List.mem_append, mem_rowS r x k]
    constructor
    · rintro (⟨h, h1, h2⟩ | h)
      · exact ⟨h, by omega, h2⟩
      · split at h
        · next c =>
          simp at h
          exact ⟨k, by omega, c.1, c.2, h⟩
        · simp at h
    · rintro ⟨h, h1, h2, h3, h4⟩
      by_cases e : h = k
      · subst e
        right
        rw [if_pos ⟨h2, h3⟩, h4]; simp
      · exact Or.inl ⟨h, by omega, h2, h3, h4⟩
theorem mem_allS (x : Pr) : ∀ R, x ∈ allS B P p R ↔ ∃ r h, r < R ∧ h < p ∧ r < h ∧ sqO B P r (P r).toNat (P h).toNat = true ∧ x = ((r : Int), (h : Int))
  | 0 => by simp [allS]
  | R + 1 => by
    show x ∈ allS B P p R ++ _ ↔ _
    rw [List.mem_append, mem_allS x R, mem_rowS]
    constructor
    · rintro (⟨r, h, h1, h2⟩ | ⟨h, h1, h2⟩)
      · exact ⟨r, h, by omega, h2⟩
      · exact ⟨R, h, by omega, h1, h2⟩
    · rintro ⟨r, h, h1, h2⟩
      by_cases e : r = R
      · subst e; exact Or.inr ⟨h, h2⟩
      · exact Or.inl ⟨r, h, by omega, h2⟩
theorem mem_allU (x : Pr) : ∀ R, x ∈ allU B P p R ↔ ∃ r q, r < R ∧ q < p ∧ sqO B P r (P r).toNat q = true ∧ x = ((r : Int), rk P (-1) p q)
  | 0 => by simp [allU]
  | R + 1 => by
    show x ∈ allU B P p R ++ rowU B P p R p ↔ _
    rw [List.mem_append, mem_allU x R]
    unfold rowU
    rw [List.mem_map]
    constructor
    · rintro (⟨r, q, h1, h2⟩ | ⟨q, h1, h2⟩)
      · exact ⟨r, q, by omega, h2⟩
      · rw [visF_mem] at h1
        exact ⟨R, q, by omega, h1.1, h1.2, h2.symm⟩
    · rintro ⟨r, q, h1, h2, h3, h4⟩
      by_cases e : r = R
      · subst e; exact Or.inr ⟨q, (visF_mem _ _ _).2 ⟨h2, h3⟩, h4.symm⟩
      · exact Or.inl ⟨r, q, by omega, h2, h3, h4⟩
theorem srt_rowS (r : Nat) : ∀ k, (rowS B P r k).Pairwise lt2
  | 0 => List.Pairwise.nil
  | k + 1 => by
    show (rowS B P r k ++ _).Pairwise lt2
    rw [List.pairwise_append]
    refine ⟨srt_rowS r k, ?_, fun x hx y hy => ?_⟩
    · split <;> simp
    · obtain ⟨h, h1, h2, h3, rfl⟩ := (mem_rowS r x k).1 hx
      split at hy
      · simp at hy
        subst hy
        rw [lt2_iff]; simp; omega
      · simp at hy
theorem srt_allS : ∀ R, (allS B P p R).Pairwise lt2
  | 0 => List.Pairwise.nil
  | R + 1 => by
    show (allS B P p R ++ rowS B P R p).Pairwise lt2
    rw [List.pairwise_append]
    refine ⟨srt_allS R, srt_rowS R p, fun x hx y hy => ?_⟩
    obtain ⟨r, h, h1, _, _, _, rfl⟩ := (mem_allS x R).1 hx
    obtain ⟨h', _, _, _, rfl⟩ := (mem_rowS R y p).1 hy
    rw [lt2_iff]; simp; omega
theorem visF_nodup (f : Nat → Bool) : ∀ k, (visF f k).Nodup
  | 0 => by simp [visF, vis]
  | k + 1 => by
    show (if f k then visF f k ++ [k] else visF f k).Nodup
    split
    · rw [List.nodup_append]
      refine ⟨visF_nodup f k, by simp, fun a ha b hb => ?_⟩
      simp at hb
      have := (visF_mem f k a).1 ha
      omega
    · exact visF_nodup f k
theorem rk_inj (he : eachB p P p = true) {a b : Nat} (ha : a < p) (hb : b < p) (e : rk P (-1) p a = rk P (-1) p b) : a = b := by
  obtain ⟨k, _, h1, h2⟩ := rk_of he (-1) ha
  obtain ⟨k', _, h3, h4⟩ := rk_of he (-1) hb
  have : k = k' := by omega
  subst this
  omega
theorem nodup_allU (he : eachB p P p = true) : ∀ R, (allU B P p R).Nodup
  | 0 => by simp [allU]
  | R + 1 => by
    show (allU B P p R ++ rowU B P p R p).Nodup
    rw [List.nodup_append]
    refine ⟨nodup_allU he R, ?_, fun a ha b hb e => ?_⟩
    · unfold rowU
      rw [List.nodup_iff_pairwise_ne, List.pairwise_map]
      refine (List.nodup_iff_pairwise_ne.1 (visF_nodup (sqO B P R (P R).toNat) p)).imp_of_mem ?_
      intro a b ha hb hab e
      simp at e
      exact hab (rk_inj he ((visF_mem _ _ _).1 ha).1 ((visF_mem _ _ _).1 hb).1 e)
    · obtain ⟨r, q, h1, _, _, h2⟩ := (mem_allU a R).1 ha
      unfold rowU at hb
      rw [List.mem_map] at hb
      obtain ⟨q', _, h3⟩ := hb
      subst e
      rw [h2] at h3
      simp at h3
      omega
theorem mem_same (hB : Fair B) (he : eachB p P p = true) (x : Pr) : x ∈ allS B P p p ↔ x ∈ allU B P p p := by
  rw [mem_allS, mem_allU]
  constructor
  · rintro ⟨r, h, h1, h2, h3, h4, rfl⟩
    have := (each_in p he h h2).1
    exact ⟨r, (P h).toNat, h1, by omega, h4, by rw [rk_is (-1) p he h h2]⟩
  · rintro ⟨r, q, h1, h2, h3, rfl⟩
    obtain ⟨k, hk, e1, e2⟩ := rk_of he (-1) h2
    have hq : (P k).toNat = q := by omega
    refine ⟨r, k, h1, hk, ?_, by rw [hq]; exact h3, by rw [e2]⟩
    rcases Nat.lt_trichotomy r k with hl | hl | hl
    · exact hl
    · subst hl
      rw [hq, (sqO_fair hB P r).2] at h3; cases h3
    · rw [(sqO_fair hB P r).1, ← hq, sqO_gone hB P r k hl] at h3; cases h3
/-- A sorted list of the edges as they come is the list of the edges in their order. -/
theorem fill_same (hB : Fair B) (he : eachB p P p = true) {l : List Pr} (hp : l.Perm (allU B P p p)) (hs : Srt l) : l = allS B P p p :=
  (srt_unique _ l (srt_allS p) hs (hp.symm.nodup (nodup_allU he p)) (fun x => by rw [mem_same hB he, hp.mem_iff])).symm

end Go.Proofs.Ytganjllofgggjag

/-
  Lists of edges: read behind an address, of the call's own, written. Two numbers an edge.
-/
set_option linter.unusedVariables false
set_option linter.unusedSimpArgs false
namespace Go.Proofs.Ytganjllofgggjag
open Go.RowKit

/-- Cell j of edges that lie one behind the other. -/
def er (L H : Nat → Int) (j : Nat) : Int := if j % 2 = 0 then L (j / 2) else H (j / 2)
theorem er0 (L H : Nat → Int) (k : Nat) : er L H (k * 2) = L k := by
  unfold er; rw [if_pos (by omega)]; congr 1; omega
theorem er1 (L H : Nat → Int) (k : Nat) : er L H (k * 2 + 1) = H k := by
  unfold er; rw [if_neg (by omega)]; congr 1; omega

/-- n edges lie behind a slice's address. -/
def ERow (w : World) (ao : Option Addr) (n : Nat) (L H : Nat → Int) : Prop := ∀ k, k < n → ∃ b o, ao = some ⟨b, o, none⟩ ∧
  w.cell? ⟨b, o + k * 2, none⟩ = some (.int .i64 (L k)) ∧ w.cell? ⟨b, o + k * 2 + 1, none⟩ = some (.int .i64 (H k))
theorem ERow.below {w w' : World} {B : Nat} {ao : Option Addr} {n : Nat} {L H : Nat → Int} (h : ERow w ao n L H) (hb : Below B w w') (hB : w.heap.size ≤ B) : ERow w' ao n L H := fun k hk => by
  obtain ⟨b, o, e, c0, c1⟩ := h k hk
  have hlt := lt_of_cell c0
  exact ⟨b, o, e, by rw [hb.cell (by simp; omega)]; exact c0, by rw [hb.cell (by simp; omega)]; exact c1⟩
theorem ERow.alloc {w : World} {ao : Option Addr} {n : Nat} {L H : Nat → Int} (h : ERow w ao n L H) (o : Obj) : ERow (w.alloc o) ao n L H := h.below ((Below.refl w.heap.size w).alloc (Nat.le_refl _) o) (Nat.le_refl _)
theorem ERow.congr {w : World} {ao : Option Addr} {n : Nat} {L H L' H' : Nat → Int} (h : ERow w ao n L H) (e1 : ∀ k, k < n → L k = L' k) (e2 : ∀ k, k < n → H k = H' k) : ERow w ao n L' H' := fun k hk => by
  obtain ⟨b, o, h1, h2, h3⟩ := h k hk
  exact ⟨b, o, h1, by rw [h2, e1 k hk], by rw [h3, e2 k hk]⟩
theorem ERow.less {w : World} {ao : Option Addr} {n m : Nat} {L H : Nat → Int} (h : ERow w ao n L H) (hm : m ≤ n) : ERow w ao m L H := fun k hk => h k (by omega)

/-- Block b begins with n edges of the call's own, which may be written. -/
def EHas (w : World) (b n : Nat) (f : Nat → Int) : Prop := ∃ cur : Array Value, w.heap[b]? = some (.cells cur 64 (0, 0)) ∧ n * 2 ≤ cur.size ∧ ∀ j, j < n * 2 → cur[j]? = some (.int .i64 (f j))
theorem EHas.cell {w : World} {b n : Nat} {f : Nat → Int} (h : EHas w b n f) {j : Nat} (hj : j < n * 2) : w.cell? ⟨b, j, none⟩ = some (.int .i64 (f j)) := by
  obtain ⟨c, hb, _, hc⟩ := h
  simp [World.cell?, hb, hc j hj]
theorem EHas.frozen {w : World} {b n : Nat} {f : Nat → Int} (h : EHas w b n f) (j : Nat) : w.frozen? ⟨b, j, none⟩ = false := by
  obtain ⟨c, hb, _, _⟩ := h
  simp [World.frozen?, hb]
theorem EHas.lt {w : World} {b n : Nat} {f : Nat → Int} (h : EHas w b n f) : b < w.heap.size := by
  obtain ⟨c, hb, _, _⟩ := h
  exact (Array.getElem?_eq_some_iff.1 hb).1
theorem EHas.of_block {w w' : World} {b n : Nat} {f : Nat → Int} (h : EHas w b n f) (e : w'.heap[b]? = w.heap[b]?) : EHas w' b n f := by
  obtain ⟨c, hb, hn, hc⟩ := h
  exact ⟨c, e.trans hb, hn, hc⟩
theorem EHas.congr {w : World} {b n : Nat} {f g : Nat → Int} (h : EHas w b n f) (e : ∀ j, j < n * 2 → f j = g j) : EHas w b n g := by
  obtain ⟨c, hb, hn, hc⟩ := h
  exact ⟨c, hb, hn, fun j hj => by rw [hc j hj, e j hj]⟩
theorem EHas.set {w : World} {b n : Nat} {f : Nat → Int} (h : EHas w b n f) (i : Nat) (v : Int) : EHas (w.setCell ⟨b, i, none⟩ (.int .i64 v)) b n (fun j => if j = i then v else f j) := by
  obtain ⟨c, hb, hn, hc⟩ := h
  refine ⟨c.setIfInBounds i (.int .i64 v), ?_, by simpa using hn, fun j hj => ?_⟩
  · simp [World.setCell, Array.getElem?_modify, hb]
  · rw [Array.getElem?_setIfInBounds]
    by_cases e : j = i
    · subst e
      simp; omega
    · rw [if_neg (fun h => e h.symm)]
      show c[j]? = some (.int .i64 (if j = i then v else f j))
      rw [if_neg e]
      exact hc j hj
theorem EHas.row {w : World} {b n : Nat} {L H : Nat → Int} (h : EHas w b n (er L H)) : ERow w (some ⟨b, 0, none⟩) n L H := fun k hk => by
  refine ⟨b, 0, rfl, ?_, ?_⟩
  · have := h.cell (j := k * 2) (by omega); rw [er0] at this; simpa using this
  · have := h.cell (j := k * 2 + 1) (by omega); rw [er1] at this; simpa using this
theorem EHas.below {w w' : World} {b n B : Nat} {f : Nat → Int} (h : EHas w b n f) (hb : Below B w w') (hB : b < B) : EHas w' b n f := h.of_block (hb.block b hB)
theorem EHas.next {w w' : World} {b n : Nat} {f : Nat → Int} (h : EHas w b n f) (hb : Below w.heap.size w w') : EHas w' b n f := h.below hb h.lt
theorem EHas.grown {w w' : World} {b n : Nat} {f : Nat → Int} {row : Option Nat} (h : EHas w b n f) (hg : w.grownBy w' row) (hne : some b ≠ row) : EHas w' b n f := h.of_block (hg.block b h.lt hne)
theorem EHas.of_row {w : World} {b n : Nat} {f : Nat → Int} (h : w.rowIs b 64 (n * 2) (fun j => .int .i64 (f j))) : EHas w b n f := by
  obtain ⟨c, hb, hn, hc⟩ := h
  exact ⟨c, hb, by omega, hc⟩

theorem Try.infoEdge : (Try.prog.info? 64).map (fun i => (i.zero, i.size, i.bytes)) = some (some (.agg #[.int .i64 0, .int .i64 0]), 2, 16) := by kernel_rfl

/-- An answered list of edges, of the call's own. -/
def EAns (w w' : World) (e : Ending) (m : Nat) (L H : Nat → Int) : Prop := ∃ ao cap, e = .returned (.slice ao m cap) ∧ (0 < m → ∃ g, ao = some ⟨g, 0, none⟩ ∧ w.heap.size ≤ g ∧ EHas w' g m (er L H)) ∧ Below w.heap.size w w'

end Go.Proofs.Ytganjllofgggjag

/-
  Edges of the call's own as a list of pairs: read, grown by one, two neighbours exchanged.
-/
set_option linter.unusedVariables false
set_option linter.unusedSimpArgs false
namespace Go.Proofs.Ytganjllofgggjag
open Go.RowKit

def Lf (l : List (Int × Int)) (k : Nat) : Int := (l.getD k (0, 0)).1
def Hf (l : List (Int × Int)) (k : Nat) : Int := (l.getD k (0, 0)).2
/-- The cells of a list of edges. -/
def ecells (l : List (Int × Int)) : List Value := l.flatMap fun e => [.int .i64 e.1, .int .i64 e.2]
theorem ecells_len : ∀ l : List (Int × Int), (ecells l).length = l.length * 2
  | [] => rfl
  | e :: l => by
    have := ecells_len l
    simp [ecells] at this ⊢
    omega
theorem ecells_at : ∀ (l : List (Int × Int)) (j : Nat), j < l.length * 2 → (ecells l)[j]? = some (.int .i64 (er (Lf l) (Hf l) j))
  | [], j, h => by simp at h
  | e :: l, 0, h => by simp [ecells, er, Lf]
  | e :: l, 1, h => by simp [ecells, er, Hf]
  | e :: l, j + 2, h => by
    have := ecells_at l j (by simp at h; omega)
    have h1 : (ecells (e :: l))[j + 2]? = (ecells l)[j]? := by simp [ecells]
    rw [h1, this]
    have hd : (j + 2) / 2 = j / 2 + 1 := by omega
    have hm : (j + 2) % 2 = j % 2 := by omega
    unfold er Lf Hf
    rw [hd, hm]
    simp
theorem ecells_snoc (l : List (Int × Int)) (a b : Int) : ecells l ++ [.int .i64 a, .int .i64 b] = ecells (l ++ [(a, b)]) := by simp [ecells]

/-- The list lies in block g, from block base on, with room for cap edges. -/
def EOwn (w : World) (base g cap : Nat) (l : List (Int × Int)) : Prop := w.ownsRow base 64 2 (.slice (some ⟨g, 0, none⟩) l.length cap) l.length (ecells l)
theorem EOwn.has {w : World} {base g cap : Nat} {l : List (Int × Int)} (h : EOwn w base g cap l) : EHas w g l.length (er (Lf l) (Hf l)) := by
  obtain ⟨hl, h0 | ⟨g', cap', cur, hv, hb, hh, h1, h2, h3, h4⟩⟩ := h
  · simp at h0
  · simp at hv
    obtain ⟨rfl, rfl⟩ := hv
    refine ⟨cur, hh, by omega, fun j hj => ?_⟩
    have : (cur.toList.take (l.length * 2))[j]? = (ecells l)[j]? := by rw [h4]
    rw [List.getElem?_take_of_lt (by omega), ecells_at l j hj] at this
    simpa using this
theorem EOwn.from {w : World} {base base' g cap : Nat} {l : List (Int × Int)} (h : EOwn w base g cap l) (hb : base' ≤ base) : EOwn w base' g cap l := by
  refine ⟨h.1, ?_⟩
  rcases h.2 with hn | ⟨g', cap', cur, hv, hb', rest⟩
  · exact .inl hn
  · exact .inr ⟨g', cap', cur, hv, Nat.le_trans hb hb', rest⟩
theorem EOwn.base {w : World} {base g cap : Nat} {l : List (Int × Int)} (h : EOwn w base g cap l) : base ≤ g := (World.ownsRow.lt h g rfl).1
theorem EOwn.lt {w : World} {base g cap : Nat} {l : List (Int × Int)} (h : EOwn w base g cap l) : g < w.heap.size := (World.ownsRow.lt h g rfl).2
theorem EOwn.of_block {w w' : World} {base g cap : Nat} {l : List (Int × Int)} (h : EOwn w base g cap l) (e : w'.heap[g]? = w.heap[g]?) : EOwn w' base g cap l := by
  refine ⟨h.1, ?_⟩
  rcases h.2 with hn | ⟨g', cap', cur, hv, hb', hgg, rest⟩
  · exact .inl hn
  · simp at hv
    obtain ⟨rfl, rfl⟩ := hv
    exact .inr ⟨g, cap, cur, rfl, hb', e.trans hgg, rest⟩
theorem EOwn.below {w w' : World} {base g cap B : Nat} {l : List (Int × Int)} (h : EOwn w base g cap l) (hb : Below B w w') (hB : g < B) : EOwn w' base g cap l := h.of_block (hb.block g hB)
theorem EOwn.next {w w' : World} {base g cap : Nat} {l : List (Int × Int)} (h : EOwn w base g cap l) (hb : Below w.heap.size w w') : EOwn w' base g cap l := h.below hb h.lt
theorem EOwn.grown {w w' : World} {base g cap : Nat} {l : List (Int × Int)} {row : Option Nat} (h : EOwn w base g cap l) (hg : w.grownBy w' row) (hne : some g ≠ row) : EOwn w' base g cap l := h.of_block (hg.block g h.lt hne)
theorem EOwn.room {w : World} {base g cap : Nat} {l : List (Int × Int)} (h : EOwn w base g cap l) : l.length ≤ cap := by
  obtain ⟨hl, h0 | ⟨g', cap', cur, hv, hb, hh, h1, h2, h3, h4⟩⟩ := h
  · simp at h0
  · simp at hv
    omega
theorem EOwn.empty (w : World) {base : Nat} (hb : base ≤ w.heap.size) : EOwn (w.alloc (.cells #[] 64)) base w.heap.size 0 [] := by
  have := World.ownsRow_lit (base := base) (e := 64) (size := 2) w #[] 0 hb (by simp) (by simp)
  simpa [EOwn, ecells] using this

theorem news_edge {w : World} {B : Nat} {x y : Int} (h0 : w.cell? ⟨B, 0, none⟩ = some (.int .i64 x)) (h1 : w.cell? ⟨B, 1, none⟩ = some (.int .i64 y)) : ∀ j u, [Value.int .i64 x, .int .i64 y][j]? = some u → w.cell? ((⟨B, 0, none⟩ : Addr).add j) = some u :=
  fun j u hu => by
    match j, hu with
    | 0, hu => simp at hu; subst hu; exact h0
    | 1, hu => simp at hu; subst hu; exact h1
    | j + 2, hu => simp at hu
theorem wpList_append_edge {w : World} {ops : Array Oper} {rest : List Oper} {o : Oper} {a : Act} {Q : Exit → Act → World → Prop} (hgd : o.guard = none) (s x : Operand)
    (ho : o.op = .call { callee := .builtin .append, args := #[s, x], argTypes := #[26, 26] }) (base g cap : Nat) (l : List (Int × Int)) (hs : a.eval s = .slice (some ⟨g, 0, none⟩) l.length cap)
    (hown : EOwn w base g cap l) (B c : Nat) (v u : Int) (hx : a.eval x = .slice (some ⟨B, 0, none⟩) 1 c) (h0 : w.cell? ⟨B, 0, none⟩ = some (.int .i64 v)) (h1 : w.cell? ⟨B, 1, none⟩ = some (.int .i64 u)) (hn : l.length ≤ 1000000) (hbase : base ≤ w.heap.size)
    (h : ∀ g' cap' w', EOwn w' base g' cap' (l ++ [(v, u)]) → w.grownBy w' (some g) → (g' = g ∨ g' = w.heap.size) → wpList Try.prog ops Q rest (a.put o.dst (.slice (some ⟨g', 0, none⟩) (l.length + 1) cap')) w') : wpList Try.prog ops Q (o :: rest) a w := by
  obtain ⟨i, hi, hz0, hz1, hz2⟩ := info_parts Try.infoEdge
  refine wpList_append_lies w hgd s x 26 ho base 64 i _ 2 16 Try.underlying26 hi hz0 hz1 hz2 rfl (by omega) _ l.length (ecells l) hs hown ⟨B, 0, none⟩ 1 c [.int .i64 v, .int .i64 u] hx rfl (news_edge h0 h1) ?_ (by omega) (by unfold maxLen; omega) (by omega) hbase w.heap.size rfl ?_
  · intro u hu
    simp at hu
    rcases hu with rfl | rfl <;> rfl
  · intro g' cap' w' hown' hgrow hat hlt
    refine h g' cap' w' ?_ hgrow ?_
    · rw [ecells_snoc] at hown'
      unfold EOwn
      rw [List.length_append]
      exact hown'
    · rcases hat with e | e
      · simp [Value.ownBlock] at e; exact Or.inl e.symm
      · exact Or.inr e

theorem step_append_edge {w : World} {ops : Array Oper} {o : Oper} {a : Act} {K : Act → World → Prop} {Q : Exit → Act → World → Prop} {E : Prop} (hgd : o.guard = none) (s x : Operand)
    (ho : o.op = .call { callee := .builtin .append, args := #[s, x], argTypes := #[26, 26] }) (base g cap : Nat) (l : List (Int × Int)) (hs : a.eval s = .slice (some ⟨g, 0, none⟩) l.length cap)
    (hown : EOwn w base g cap l) (B c : Nat) (v u : Int) (hx : a.eval x = .slice (some ⟨B, 0, none⟩) 1 c) (h0 : w.cell? ⟨B, 0, none⟩ = some (.int .i64 v)) (h1 : w.cell? ⟨B, 1, none⟩ = some (.int .i64 u)) (hn : l.length ≤ 1000000) (hbase : base ≤ w.heap.size)
    (h : ∀ g' cap' w', EOwn w' base g' cap' (l ++ [(v, u)]) → w.grownBy w' (some g) → (g' = g ∨ g' = w.heap.size) → K (a.put o.dst (.slice (some ⟨g', 0, none⟩) (l.length + 1) cap')) w') :
    if Region.wanted o (yielded ops a.tmps) = true then Oper.wp Try.prog o a w K Q else E := by
  have hw : Region.wanted o (yielded ops a.tmps) = true := by simp [Region.wanted, hgd]
  rw [if_pos hw]
  obtain ⟨i, hi, hz0, hz1, hz2⟩ := info_parts Try.infoEdge
  refine wp_append_lies w s x 26 ho base 64 i _ 2 16 Try.underlying26 hi hz0 hz1 hz2 rfl (by omega) _ l.length (ecells l) hs hown ⟨B, 0, none⟩ 1 c [.int .i64 v, .int .i64 u] hx rfl (news_edge h0 h1) ?_ (by omega) (by unfold maxLen; omega) (by omega) hbase w.heap.size rfl ?_
  · intro u hu
    simp at hu
    rcases hu with rfl | rfl <;> rfl
  · intro g' cap' w' hown' hgrow hat hlt
    refine h g' cap' w' ?_ hgrow ?_
    · rw [ecells_snoc] at hown'
      unfold EOwn
      rw [List.length_append]
      exact hown'
    · rcases hat with e | e
      · simp [Value.ownBlock] at e; exact Or.inl e.symm
      · exact Or.inr e

/-- The list lies at the beginning of block g. -/
def ELies (w : World) (g : Nat) (l : List (Int × Int)) : Prop := EHas w g l.length (er (Lf l) (Hf l))
theorem ELies.at {w : World} {g : Nat} {a b : List (Int × Int)} {x : Int × Int} (h : ELies w g (a ++ x :: b)) : w.cell? ⟨g, a.length * 2, none⟩ = some (.int .i64 x.1) ∧ w.cell? ⟨g, a.length * 2 + 1, none⟩ = some (.int .i64 x.2) := by
  have h0 := EHas.cell h (j := a.length * 2) (by simp)
  have h1 := EHas.cell h (j := a.length * 2 + 1) (by simp; omega)
  rw [er0] at h0
  rw [er1] at h1
  have e : (a ++ x :: b).getD a.length (0, 0) = x := by simp [List.getD]
  unfold Lf at h0
  unfold Hf at h1
  rw [e] at h0 h1
  exact ⟨h0, h1⟩
theorem getD_swap (a b : List (Int × Int)) (x y : Int × Int) (k : Nat) : (a ++ x :: y :: b).getD k (0, 0) = if k = a.length + 1 then y else if k = a.length then x else (a ++ y :: x :: b).getD k (0, 0) := by
  by_cases h1 : k = a.length + 1
  · subst h1; rw [if_pos rfl]; simp [List.getD, List.getElem?_append_right]
  · rw [if_neg h1]
    by_cases h2 : k = a.length
    · subst h2; rw [if_pos rfl]; simp [List.getD]
    · rw [if_neg h2]
      by_cases h3 : k < a.length
      · simp [List.getD, List.getElem?_append_left h3]
      · obtain ⟨m, rfl⟩ : ∃ m, k = a.length + (m + 2) := ⟨k - a.length - 2, by omega⟩
        simp [List.getD, List.getElem?_append_right]
theorem er_swap (a b : List (Int × Int)) (x y : Int × Int) (j : Nat) :
    (if j = a.length * 2 + 1 then x.2 else if j = a.length * 2 then x.1 else if j = (a.length + 1) * 2 + 1 then y.2 else if j = (a.length + 1) * 2 then y.1 else er (Lf (a ++ y :: x :: b)) (Hf (a ++ y :: x :: b)) j) = er (Lf (a ++ x :: y :: b)) (Hf (a ++ x :: y :: b)) j := by
  unfold er Lf Hf
  rw [getD_swap a b x y (j / 2)]
  have hm : j % 2 = 0 ∨ j % 2 = 1 := by omega
  by_cases h1 : j = a.length * 2 + 1
  · have e1 : j / 2 = a.length := by omega
    have e2 : ¬ j % 2 = 0 := by omega
    rw [if_pos h1, if_neg e2, if_neg (by omega), if_pos e1]
  rw [if_neg h1]
  by_cases h2 : j = a.length * 2
  · have e1 : j / 2 = a.length := by omega
    have e2 : j % 2 = 0 := by omega
    rw [if_pos h2, if_pos e2, if_neg (by omega), if_pos e1]
  rw [if_neg h2]
  by_cases h3 : j = (a.length + 1) * 2 + 1
  · have e1 : j / 2 = a.length + 1 := by omega
    have e2 : ¬ j % 2 = 0 := by omega
    rw [if_pos h3, if_neg e2, if_pos e1]
  rw [if_neg h3]
  by_cases h4 : j = (a.length + 1) * 2
  · have e1 : j / 2 = a.length + 1 := by omega
    have e2 : j % 2 = 0 := by omega
    rw [if_pos h4, if_pos e2, if_pos e1]
  rw [if_neg h4, if_neg (show ¬ j / 2 = a.length + 1 by omega), if_neg (show ¬ j / 2 = a.length by omega)]

end Go.Proofs.Ytganjllofgggjag

/-
  The fill, the document's: the edges in their order. For maps of at most 24 places and orders that have each place once.
-/
set_option linter.unusedVariables false
set_option linter.unusedSimpArgs false
namespace Go.Proofs.Ytganjllofgggjag
open Go.RowKit
attribute [local go_sem ↓] Go.wp_at_zero Go.wp_at_succ

/-- Is one among the first k of rank h? -/
def dnB (R L : Nat → Int) (h : Int) : Nat → Bool
  | 0 => false
  | i + 1 => dnB R L h i || R (L i).toNat == h
theorem dn_mem {R L : Nat → Int} {h : Int} : ∀ k, dnB R L h k = true ↔ ∃ i, i < k ∧ R (L i).toNat = h
  | 0 => by simp [dnB]
  | k + 1 => by
    show (dnB R L h k || R (L k).toNat == h) = true ↔ _
    rw [Bool.or_eq_true, dn_mem k, beq_iff_eq]
    constructor
    · rintro (⟨i, h1, h2⟩ | h1)
      · exact ⟨i, by omega, h2⟩
      · exact ⟨k, by omega, h1⟩
    · rintro ⟨i, h1, h2⟩
      by_cases e : i = k
      · subst e; exact Or.inr h2
      · exact Or.inl ⟨i, by omega, h2⟩
theorem dn_once {p : Nat} {P : Nat → Int} {f : Nat → Bool} (he : eachB p P p = true) {i : Nat} (hi : i < cntB f p) {h : Int} (hr : rk P 0 p (nf f p i).toNat = h) : dnB (rk P 0 p) (nf f p) h i = false := by
  cases hd : dnB (rk P 0 p) (nf f p) h i
  · rfl
  obtain ⟨j, hj, e⟩ := (dn_mem i).1 hd
  obtain ⟨q, q1, q2, q3, q4⟩ := nf_at p i hi
  obtain ⟨q', r1, r2, r3, r4⟩ := nf_at (f := f) p j (by omega)
  rw [q2] at hr
  rw [r2] at e
  simp at hr e
  obtain ⟨k, _, h1, h2⟩ := rk_of he 0 q1
  obtain ⟨k', _, h3, h4⟩ := rk_of he 0 r1
  have : k = k' := by omega
  subst this
  have : q = q' := by omega
  subst this
  omega
theorem dn_end {p : Nat} {P : Nat → Int} {f : Nat → Bool} (he : eachB p P p = true) {h : Nat} (hh : h < p) : dnB (rk P 0 p) (nf f p) (h : Int) (cntB f p) = f (P h).toNat := by
  rw [Bool.eq_iff_iff, dn_mem]
  have hP := (each_in p he h hh).1
  constructor
  · rintro ⟨i, hi, e⟩
    obtain ⟨q, q1, q2, q3, q4⟩ := nf_at p i hi
    rw [q2] at e
    simp at e
    obtain ⟨k, _, h1, h2⟩ := rk_of he 0 q1
    have : k = h := by omega
    subst this
    have : (P k).toNat = q := by omega
    rw [this]; exact q3
  · intro hf
    have hlt : cntB f (P h).toNat < cntB f p := by
      have := cntB_mono f (show (P h).toNat + 1 ≤ p by omega)
      rw [cntB_succ hf] at this
      omega
    refine ⟨_, hlt, ?_⟩
    obtain ⟨q, q1, q2, q3, q4⟩ := nf_at p _ hlt
    have := cntB_inj q3 hf q4
    rw [q2, this, Int.toNat_natCast]
    exact rk_is 0 p he h hh
theorem rowS_nil {B : Nat → Nat → Bool} {P : Nat → Int} (r : Nat) : ∀ k, k ≤ r + 1 → rowS B P r k = []
  | 0, _ => rfl
  | k + 1, h => by
    show rowS B P r k ++ _ = []
    rw [rowS_nil r k (by omega), if_neg (by omega)]; rfl
/-- The list while the neighbours of one rank are gone through for one h. -/
def midS (B : Nat → Nat → Bool) (P : Nat → Int) (p r h i : Nat) : List Pr := allS B P p r ++ rowS B P r h ++ (if dnB (rk P 0 p) (nf (sqO B P r (P r).toNat) p) (h : Int) i = true then [((r : Int), (h : Int))] else [])
theorem midS_zero (B : Nat → Nat → Bool) (P : Nat → Int) (p r h : Nat) : midS B P p r h 0 = allS B P p r ++ rowS B P r h := by simp [midS, dnB]
theorem midS_end {B : Nat → Nat → Bool} {P : Nat → Int} {p : Nat} (he : eachB p P p = true) {r h : Nat} (hr : r < h) (hh : h < p) : midS B P p r h (cntB (sqO B P r (P r).toNat) p) = allS B P p r ++ rowS B P r (h + 1) := by
  unfold midS
  rw [dn_end he hh, List.append_assoc]
  congr 1
  show _ = rowS B P r h ++ (if r < h ∧ sqO B P r (P r).toNat (P h).toNat = true then [((r : Int), (h : Int))] else [])
  congr 1
  by_cases x : sqO B P r (P r).toNat (P h).toNat = true
  · rw [if_pos x, if_pos ⟨hr, x⟩]
  · rw [if_neg x, if_neg (fun c => x c.2)]
theorem midS_hit {B : Nat → Nat → Bool} {P : Nat → Int} {p r h i : Nat} (he : eachB p P p = true) (hi : i < cntB (sqO B P r (P r).toNat) p) (hr : rk P 0 p (nf (sqO B P r (P r).toNat) p i).toNat = (h : Int)) : midS B P p r h (i + 1) = midS B P p r h i ++ [((r : Int), (h : Int))] := by
  have h0 := dn_once he hi hr
  have h1 : dnB (rk P 0 p) (nf (sqO B P r (P r).toNat) p) (h : Int) (i + 1) = true := by
    show (dnB _ _ _ i || _) = true
    rw [hr]; simp
  unfold midS
  rw [h0, h1]; simp
theorem midS_miss {B : Nat → Nat → Bool} {P : Nat → Int} {p r h i : Nat} (hr : ¬ rk P 0 p (nf (sqO B P r (P r).toNat) p i).toNat = (h : Int)) : midS B P p r h (i + 1) = midS B P p r h i := by
  have h1 : dnB (rk P 0 p) (nf (sqO B P r (P r).toNat) p) (h : Int) (i + 1) = dnB (rk P 0 p) (nf (sqO B P r (P r).toNat) p) (h : Int) i := by
    show (dnB _ _ _ i || _) = _
    have : (rk P 0 p (nf (sqO B P r (P r).toNat) p i).toNat == (h : Int)) = false := by simpa using hr
    rw [this]; simp
  unfold midS
  rw [h1]
theorem rowS_len {B : Nat → Nat → Bool} {P : Nat → Int} (r : Nat) : ∀ k, (rowS B P r k).length ≤ k
  | 0 => Nat.le_refl _
  | k + 1 => by
    show (rowS B P r k ++ _).length ≤ k + 1
    have := rowS_len (B := B) (P := P) r k
    rw [List.length_append]
    split <;> simp <;> omega
theorem allS_len {B : Nat → Nat → Bool} {P : Nat → Int} {p : Nat} (hp : p ≤ 24) : ∀ R, (allS B P p R).length ≤ 24 * R
  | 0 => Nat.le_refl _
  | R + 1 => by
    show (allS B P p R ++ rowS B P R p).length ≤ _
    have := allS_len (B := B) (P := P) hp R
    have := rowS_len (B := B) (P := P) R p
    rw [List.length_append]; omega
theorem midS_len {B : Nat → Nat → Bool} {P : Nat → Int} {p r h i : Nat} (hp : p ≤ 24) (hr : r ≤ 24) (hh : h ≤ 24) : (midS B P p r h i).length ≤ 1000 := by
  unfold midS
  have := allS_len (B := B) (P := P) hp r
  have := rowS_len (B := B) (P := P) r h
  rw [List.length_append, List.length_append]
  split <;> simp <;> omega

/-- What stands while the fill is made. -/
structure FS (w : World) (gv : Value) (p bs rb : Nat) (B : Nat → Nat → Bool) (R : Nat → Int) (g c : Nat) (l : List Pr) (W : World) : Prop where
  bel : Below (w.heap.size + 1) (w.alloc (.cells #[.int .i64 (p : Int), gv] 45)) W
  sq : Sq W bs p B
  rks : IHas W rb p R
  own : EOwn W (w.heap.size + 1) g c l
  ne : (g ≠ bs ∧ g ≠ rb ∧ bs ≠ rb) ∧ w.heap.size + 1 ≤ bs ∧ w.heap.size + 1 ≤ rb
theorem FS.next {w : World} {gv : Value} {p bs rb : Nat} {B : Nat → Nat → Bool} {R : Nat → Int} {g c : Nat} {l : List Pr} {W W' : World} (h : FS w gv p bs rb B R g c l W) (hb : Below W.heap.size W W') : FS w gv p bs rb B R g c l W' :=
  ⟨below_next h.bel (by simp) hb, VHas.next h.sq hb, h.rks.below hb h.rks.lt, h.own.next hb, h.ne⟩
theorem FS.taken {w : World} {gv : Value} {p bs rb : Nat} {B B' : Nat → Nat → Bool} {R : Nat → Int} {g c : Nat} {l : List Pr} {W W' : World} (h : FS w gv p bs rb B R g c l W) (hg : W.grownBy W' (some bs)) (hs : Sq W' bs p B') : FS w gv p bs rb B' R g c l W' := by
  have hn := h.ne
  have hz := h.bel.size
  simp at hz
  exact ⟨h.bel.trans (gr_below hg (by omega) (by omega)), hs, h.rks.grown hg (by simp; omega), h.own.grown hg (by simp; omega), h.ne⟩
theorem FS.longer {w : World} {gv : Value} {p bs rb : Nat} {B : Nat → Nat → Bool} {R : Nat → Int} {g c : Nat} {l : List Pr} {W W' : World} (h : FS w gv p bs rb B R g c l W) (hg : W.grownBy W' (some g)) {g' c' : Nat} {l' : List Pr} (ho : EOwn W' (w.heap.size + 1) g' c' l') (hat : g' = g ∨ g' = W.heap.size) : FS w gv p bs rb B R g' c' l' W' := by
  have hn := h.ne
  have hz := h.bel.size
  have h1 := h.rks.lt
  have h2 := VHas.lt h.sq
  have h3 := h.own.base
  simp at hz
  exact ⟨h.bel.trans (gr_below hg (by omega) (by omega)), VHas.grown h.sq hg (by simp; omega), h.rks.grown hg (by simp; omega), ho, by omega⟩

set_option maxRecDepth 100000 in
set_option maxHeartbeats 4000000 in
theorem l4Fill_any (p : Nat) (ao : Option Addr) (n cap : Nat) (F T G : Nat → Int) (po : Option Addr) (pcap : Nat) (P : Nat → Int) (hp1 : 1 ≤ p) (hp : p ≤ 24) (hn : n ≤ 100) (hF : ∀ k, k < n → 0 ≤ F k ∧ F k < (p : Int)) (hT : ∀ k, k < n → 0 ≤ T k ∧ T k < (p : Int)) (hFT : ∀ k, k < n → F k ≠ T k) (he : eachB p P p = true) (w : World) (hr : Row w ao n F T G) (hq : IRow w po p P) :
    Calls Try.prog 52 #[.agg #[.int .i64 (p : Int), .slice ao n cap], .slice po p pcap] w fun e w' => ∃ g c, e = .returned (.slice (some ⟨g, 0, none⟩) (allS (nbA F T n) P p p).length c) ∧ w.heap.size ≤ g ∧ EOwn w' w.heap.size g c (allS (nbA F T n) P p p) ∧ Below w.heap.size w w' := by
  have hfair : Fair (nbA F T n) := fair_nbA n (fun k hk => by have := hF k hk; have := hT k hk; have := hFT k hk; omega)
  have hsq := fun W hr' => l3Square_any p ao n cap F T G hp1 hp hn hF hT hFT W hr'
  generalize nbA F T n = B at hfair hsq ⊢
  have HSQ : Hid (∀ W, Row W ao n F T G → Calls Try.prog 72 #[.agg #[.int .i64 (p : Int), .slice ao n cap]] W fun e w' => e = .returned (.slice (some ⟨W.heap.size + 1, 0, none⟩) (p * p) (p * p)) ∧ Sq w' (W.heap.size + 1) p B ∧ Below W.heap.size W w') := hsq
  have HF : Hid (Fair B) := hfair
  have HE : Hid (eachB p P p = true) := he
  clear hfair hsq hF hT hFT he
  go_enter Try.func52, Try.ntmps52
  go_wp2_with fail
  refine (HSQ.out _ (hr.alloc _)).mono ?_
  rintro e w1 ⟨rfl, hS1, hb1⟩
  have hA1 := boxed hb1
  clear hb1
  go_wp2_with fail
  refine (l3Ranks_any po p pcap P hp HE.out _ ((hq.alloc _).below hA1 (by simp))).mono ?_
  rintro e w2 ⟨rfl, hR2, hb2⟩
  have hS2 := VHas.next hS1 hb2
  have hA2 := below_next hA1 (by simp) hb2
  have hl1 := VHas.lt hS1
  have hl2 := hR2.lt
  simp only [World.size_alloc] at hl1 hS2
  clear hS1 hA1 hb2
  have hFS : FS w (.slice ao n cap) p (w.heap.size + 1 + 1) w1.heap.size B (rk P 0 p) w2.heap.size 0 [] (w2.alloc (.cells #[] 64)) :=
    ⟨hA2.alloc (by have := hA2.size; simp at this; omega) _, VHas.alloc hS2 _, hR2.below ((Below.refl _ _).alloc (Nat.le_refl _) _) hR2.lt, EOwn.empty w2 (by omega), by omega⟩
  clear hA2 hS2 hR2
  generalize w1.heap.size = rb at hFS hl1 hl2
  go_wp2_with fail
  go_loopw [7, 8] (fun d x wr => ∃ r g c : Nat, r ≤ p ∧ x = .int .i64 r ∧ d = .slice (some ⟨g, 0, none⟩) (allS B P p r).length c ∧ FS w (.slice ao n cap) p (w.heap.size + 1 + 1) rb (sqO B P r) (rk P 0 p) g c (allS B P p r) wr) (fun _ x _ => p - (intOf x).toNat)
  case atStart => exact ⟨0, w2.heap.size, 0, Nat.zero_le _, rfl, rfl, hFS⟩
  case round =>
    clear hFS
    obtain ⟨r, g, c, hrp, rfl, rfl, hS⟩ := hrel
    by_cases hlt : r < p
    rotate_left
    · have e : r = p := by omega
      subst e
      have hb := hS.own.base
      go_wp2
      go_ret
      exact ⟨g, c, rfl, by omega, hS.own.from (Nat.le_succ _), unbox hS.bel (by omega)⟩
    have hlt' : (r : Int) < (p : Int) := by omega
    have hr0 : (0 : Int) ≤ (r : Int) := by omega
    obtain ⟨ha0, ha1⟩ := (each_in p HE.out r hlt).1
    obtain ⟨a, ha⟩ : ∃ a : Nat, P r = (a : Int) := ⟨(P r).toNat, by omega⟩
    have hap : a < p := by omega
    obtain ⟨b, o, hpo, c0⟩ := ((hq.alloc _).below hS.bel (by simp)) r hlt
    have hbl : b < w.heap.size := by
      obtain ⟨b', o', e', k0⟩ := hq r hlt
      rw [hpo] at e'
      simp at e'
      have := lt_of_cell k0
      omega
    subst hpo
    rw [ha] at c0
    have HPa : Hid (P r = (a : Int)) := ha
    obtain ⟨x0, x1, xs⟩ := box2 hS.bel
    have hnb := fun W hs => l3Neighbours_any (w.heap.size + 1 + 1) p a (sqO B P r) hp hap W hs
    have htk := fun W hs => l3Take_any (w.heap.size + 1 + 1) p a (sqO B P r) hp hap (sqO_fair HF.out P r) W hs
    have htk2 : Hid (∀ W, Sq W (w.heap.size + 1 + 1) p (sqO B P r) → Calls Try.prog 74 #[.slice (some ⟨w.heap.size + 1 + 1, 0, none⟩) (p * p) (p * p), .int .i64 (p : Int), .int .i64 (a : Int)] W fun e w' => e = .returned (.tuple #[]) ∧ Sq w' (w.heap.size + 1 + 1) p (sqO B P (r + 1)) ∧ W.grownBy w' (some (w.heap.size + 1 + 1))) := by
      intro W hs
      have e : sqO B P (r + 1) = tk (sqO B P r) a := by show tk (sqO B P r) (P r).toNat = _; rw [ha]; rfl
      rw [e]
      exact htk W hs
    have hrow : sqO B P r (P r).toNat = sqO B P r a := by rw [ha]; rfl
    obtain ⟨m, hm⟩ : ∃ m, cntB (sqO B P r a) p = m := ⟨_, rfl⟩
    obtain ⟨K, hK⟩ : ∃ K, nf (sqO B P r a) p = K := ⟨_, rfl⟩
    have HK : Hid (cntB (sqO B P r (P r).toNat) p = m ∧ nf (sqO B P r (P r).toNat) p = K) := by rw [hrow]; exact ⟨hm, hK⟩
    have hm24 : m ≤ 24 := by rw [← hm]; exact Nat.le_trans (cntB_le _ _) hp
    have HKI : Hid (∀ i, i < m → ∃ q : Nat, q < p ∧ K i = (q : Int)) := fun i hi => by
      rw [← hm] at hi
      obtain ⟨q, q1, q2, _⟩ := nf_at p i hi
      exact ⟨q, q1, by rw [← hK]; exact q2⟩
    rw [hm, hK] at hnb
    have HNB : Hid (∀ W, Sq W (w.heap.size + 1 + 1) p (sqO B P r) → Calls Try.prog 73 #[.slice (some ⟨w.heap.size + 1 + 1, 0, none⟩) (p * p) (p * p), .int .i64 (p : Int), .int .i64 (a : Int)] W fun e w' => ∃ g c, e = .returned (.slice (some ⟨g, 0, none⟩) m c) ∧ W.heap.size ≤ g ∧ IHas w' g m K ∧ Below W.heap.size W w') := hnb
    clear hnb htk hrow hm hK ha ha0 ha1
    have hsd : Sq wr.drew (w.heap.size + 1 + 1) p (sqO B P r) := VHas.of_block hS.sq rfl
    go_wp2
    go_region_held3 (fun w' => w'.cell? ⟨w.heap.size, 0, none⟩ = some (.int .i64 (p : Int)) ∧ w'.cell? ⟨b, o + r, none⟩ = some (.int .i64 (a : Int)))
      (first | (go_split_ands; refine ⟨?_, ?_⟩ <;> exact keep_cell hb3 (Nat.le_refl _) (by assumption)) | go_keep)
      (first | (go_at_call 73; refine (HNB.out _ hsd).mono ?_; rintro e w3 ⟨gl, cl, rfl, hgl, hI3, hb3⟩))
    have hS3 : FS w (.slice ao n cap) p (w.heap.size + 1 + 1) rb (sqO B P r) (rk P 0 p) g c (allS B P p r) w3 := FS.next (W := wr.drew) ⟨hS.bel.drew, hsd, hS.rks.of_block rfl, hS.own.of_block rfl, hS.ne⟩ hb3
    have hgg : g < w3.heap.size := hS3.own.lt
    have hne3 : g ≠ gl ∧ w.heap.size + 1 + 1 ≠ gl := by
      have h1 := hS.own.lt
      have h2 := VHas.lt hS.sq
      have h3 : wr.heap.size ≤ gl := hgl
      omega
    have hy0 := keep_cell hb3 (Nat.le_refl _) (show wr.drew.cell? ⟨w.heap.size, 0, none⟩ = some (.int .i64 (p : Int)) from x0)
    have hy1 := keep_cell hb3 (Nat.le_refl _) (show wr.drew.cell? ⟨b, o + r, none⟩ = some (.int .i64 (a : Int)) from c0)
    have hsd3 : Sq w3.drew (w.heap.size + 1 + 1) p (sqO B P r) := VHas.of_block hS3.sq rfl
    clear hS hsd hb3 hgl x0 x1 c0 hgg
    go_wp2
    go_region_held3 (fun w' => w'.cell? ⟨w.heap.size, 0, none⟩ = some (.int .i64 (p : Int)) ∧ w'.cell? ⟨b, o + r, none⟩ = some (.int .i64 (a : Int)))
      (first | (go_split_ands; refine ⟨hg4.cell (by assumption) (by simp; omega), hg4.cell (by assumption) (by simp; omega)⟩) | go_keep)
      (first | (go_at_call 74; refine (htk2.out _ hsd3).mono ?_; rintro e w4 ⟨rfl, hs4, hg4⟩))
    have hS4 : FS w (.slice ao n cap) p (w.heap.size + 1 + 1) rb (sqO B P (r + 1)) (rk P 0 p) g c (allS B P p r) w4 := FS.taken (W := w3.drew) ⟨hS3.bel.drew, hsd3, hS3.rks.of_block rfl, hS3.own.of_block rfl, hS3.ne⟩ hg4 hs4
    have hI4 : IHas w4 gl m K := (IHas.of_block (w' := w3.drew) hI3 rfl).grown hg4 (by simp; omega)
    clear hS3 hI3 hsd3 hs4 hg4 hy0 hy1 htk2 HNB
    go_wp2
    go_loopw [7, 10] (fun d x wq => ∃ h g c : Nat, r < h ∧ h ≤ p ∧ x = .int .i64 h ∧ d = .slice (some ⟨g, 0, none⟩) (allS B P p r ++ rowS B P r h).length c ∧ FS w (.slice ao n cap) p (w.heap.size + 1 + 1) rb (sqO B P (r + 1)) (rk P 0 p) g c (allS B P p r ++ rowS B P r h) wq ∧ IHas wq gl m K ∧ g ≠ gl) (fun _ x _ => p - (intOf x).toNat)
    case atStart => exact ⟨r + 1, g, c, by omega, by omega, by go_num, by rw [rowS_nil r (r + 1) (Nat.le_refl _), List.append_nil], by rw [rowS_nil r (r + 1) (Nat.le_refl _), List.append_nil]; exact hS4, hI4, hne3.1⟩
    case round =>
      clear hS4 hI4 hne3
      obtain ⟨h, g, c, hrh, hhp, rfl, rfl, hS, hI, hne⟩ := hrel
      by_cases hlh : h < p
      rotate_left
      · have e : h = p := by omega
        subst e
        go_wp2
        go_roundw
        case rel => exact ⟨r + 1, g, c, by omega, by go_num, rfl, hS⟩
        case measure => simp [intOf]; omega
      have hlh' : (h : Int) < (p : Int) := by omega
      go_wp2
      go_loopw [7, 11] (fun d x wz => ∃ i g c : Nat, i ≤ m ∧ x = .int .i64 i ∧ d = .slice (some ⟨g, 0, none⟩) (midS B P p r h i).length c ∧ FS w (.slice ao n cap) p (w.heap.size + 1 + 1) rb (sqO B P (r + 1)) (rk P 0 p) g c (midS B P p r h i) wz ∧ IHas wz gl m K ∧ g ≠ gl) (fun _ x _ => m - (intOf x).toNat)
      case atStart => exact ⟨0, g, c, Nat.zero_le _, rfl, by rw [midS_zero], by rw [midS_zero]; exact hS, hI, hne⟩
      case round =>
        clear hS hI hne
        obtain ⟨i, g, c, him, rfl, rfl, hS, hI, hne⟩ := hrel
        by_cases hli : i < m
        rotate_left
        · have e : i = m := by omega
          subst e
          have hend : Hid (midS B P p r h i = allS B P p r ++ rowS B P r (h + 1)) := by
            have := midS_end (B := B) HE.out hrh hlh
            rw [HK.out.1] at this
            exact this
          go_wp2
          go_roundw
          case rel => exact ⟨h + 1, g, c, by omega, by omega, by go_num, by rw [hend.out], by rw [← hend.out]; exact hS, hI, hne⟩
          case measure => simp [intOf]; omega
        have hli' : (i : Int) < (m : Int) := by omega
        have hi0 : (0 : Int) ≤ (i : Int) := by omega
        obtain ⟨q, hqp, hKq⟩ := HKI.out i hli
        have d0 := hI.cell hli
        rw [hKq] at d0
        have d1 := hS.rks.cell hqp
        have hqp' : (q : Int) < (p : Int) := by omega
        have hq0 : (0 : Int) ≤ (q : Int) := by omega
        have hlen := midS_len (B := B) (P := P) (r := r) (h := h) (i := i) hp (by omega) (by omega)
        have hIl := hI.lt
        have hRl := hS.rks.lt
        by_cases hit : rk P 0 p q = (h : Int)
        · have HM : Hid (midS B P p r h (i + 1) = midS B P p r h i ++ [((r : Int), (h : Int))]) := by
            refine midS_hit HE.out (by rw [HK.out.1]; exact hli) ?_
            rw [HK.out.2, hKq]
            simpa using hit
          have hlen1 : Hid ((midS B P p r h (i + 1)).length = (midS B P p r h i).length + 1) := by
            show (midS B P p r h (i + 1)).length = _
            rw [HM.out]; simp
          rw [hit] at d1
          have hal := (Below.refl wr.heap.size wr).alloc (Nat.le_refl _) (.cells #[.int .i64 (r : Int), .int .i64 (h : Int)] 64)
          have hS5 := hS.next hal
          have hI5 := hI.below hal hIl
          have hbs := hS.bel.size
          simp only [World.size_alloc] at hbs
          go_wp2_with (at_builtin; refine wpList_append_edge rfl _ _ rfl (w.heap.size + 1) g c (midS B P p r h i) rfl hS5.own wr.heap.size 1 (r : Int) (h : Int) rfl (by simp [go_sem]) (by simp [go_sem]) (by omega) (by simp; omega) ?_; intro g' c' w6 hown6 hgrow6 hat6)
          have hS6 := hS5.longer hgrow6 hown6 hat6
          have hI6 := hI5.grown hgrow6 (by simp; omega)
          have hne6 : g' ≠ gl := by simp at hat6; omega
          clear hS hI hS5 hI5 hown6 hgrow6 hat6 hal d0 d1
          rw [← HM.out] at hS6
          go_wp2
          go_roundw
          case rel => exact ⟨i + 1, g', c', by omega, by go_num, by rw [hlen1.out], hS6, hI6, hne6⟩
          case measure => simp [intOf]; omega
        · have HM : Hid (midS B P p r h (i + 1) = midS B P p r h i) := by
            refine midS_miss ?_
            rw [HK.out.2, hKq]
            simpa using hit
          have hitb : (rk P 0 p q == (h : Int)) = false := by simpa using hit
          go_wp2
          go_roundw
          case rel => exact ⟨i + 1, g, c, by omega, by go_num, by rw [HM.out], by rw [HM.out]; exact hS, hI, hne⟩
          case measure => simp [intOf]; omega

end Go.Proofs.Ytganjllofgggjag

/-
  Which of two edges goes first: the program's comparison answers a number below nought just where the first one is below the second. No condition.
-/
set_option linter.unusedVariables false
set_option linter.unusedSimpArgs false
namespace Go.Proofs.Ytganjllofgggjag
open Go.RowKit
attribute [local go_sem ↓] Go.wp_at_zero Go.wp_at_succ

/-- Which one goes first. -/
def cmpI (x y : Int) : Int := if x < y then -1 else if y < x then 1 else 0
def orI (x y : Int) : Int := if x = 0 then y else x
def cmpE (l h l' h' : Int) : Int := orI (cmpI l l') (cmpI h h')
theorem cmpE_up (l h l' h' : Int) : cmpE l h l' h' < 0 ↔ upB l h l' h' = true := by
  unfold cmpE orI cmpI upB
  by_cases h1 : l < l'
  · simp [h1]
  by_cases h2 : l' < l
  · have : l ≠ l' := by omega
    simp [h1, h2, this]
  have : l = l' := by omega
  subst this
  by_cases h3 : h < h'
  · simp [h3]
  by_cases h4 : h' < h <;> simp [h3, h4]
theorem cmpE_in (l h l' h' : Int) : -1 ≤ cmpE l h l' h' ∧ cmpE l h l' h' ≤ 1 := by
  unfold cmpE orI cmpI
  by_cases h1 : l < l' <;> by_cases h2 : l' < l <;> by_cases h3 : h < h' <;> by_cases h4 : h' < h <;> simp [h1, h2, h3, h4]

theorem isNaN_any (x : Int) (w : World) : Calls Try.prog 105 #[.int .i64 x] w fun e w' => e = .returned (.bool false) ∧ w' = w := by
  go_enter Try.func105, Try.ntmps105
  go_wp2
  go_ret
  exact ⟨by simp, rfl⟩

theorem compare_any (x y : Int) (w : World) : Calls Try.prog 96 #[.int .i64 x, .int .i64 y] w fun e w' => e = .returned (.int .i64 (cmpI x y)) ∧ w' = w := by
  unfold cmpI
  by_cases h1 : x < y
  · go_enter Try.func96, Try.ntmps96
    go_wp2_with (go_at_call 105; refine (isNaN_any _ _).mono ?_; rintro e w1 ⟨rfl, rfl⟩)
    go_ret
    exact ⟨by simp [h1], rfl⟩
  by_cases h2 : y < x <;>
  · go_enter Try.func96, Try.ntmps96
    go_wp2_with (go_at_call 105; refine (isNaN_any _ _).mono ?_; rintro e w1 ⟨rfl, rfl⟩)
    go_ret
    exact ⟨by simp [h1, h2], rfl⟩

theorem or_two (b o c : Nat) (x y : Int) (w : World) (h0 : w.cell? ⟨b, o, none⟩ = some (.int .i64 x)) (h1 : w.cell? ⟨b, o + 1, none⟩ = some (.int .i64 y)) :
    Calls Try.prog 95 #[.slice (some ⟨b, o, none⟩) 2 c] w fun e w' => e = .returned (.int .i64 (orI x y)) ∧ w' = w := by
  unfold orI
  go_enter Try.func95, Try.ntmps95
  go_wp2
  go_loop [8] (fun i => ∃ k : Nat, k ≤ 2 ∧ i = .int .i64 k ∧ (1 ≤ k → x = 0) ∧ (2 ≤ k → y = 0)) (fun i => 2 - (intOf i).toNat)
  case atStart => exact ⟨0, by omega, rfl, fun h => by omega, fun h => by omega⟩
  case round =>
    obtain ⟨k, hk, rfl, hx, hy⟩ := hrel
    have h3 : k = 0 ∨ k = 1 ∨ k = 2 := by omega
    rcases h3 with rfl | rfl | rfl
    · clear hx hy
      by_cases e : x = 0
      · go_wp2
        go_round
        case rel => exact ⟨1, by omega, by go_num, fun _ => e, fun h => by omega⟩
        case measure => simp [intOf]
      · go_wp2
        go_ret
        exact ⟨by simp [e], rfl⟩
    · have hx := hx (by omega)
      subst hx
      clear hy
      by_cases e : y = 0
      · go_wp2
        go_round
        case rel => exact ⟨2, by omega, by go_num, by simp, fun h => e⟩
        case measure => simp [intOf]
      · go_wp2
        go_ret
        exact ⟨by simp, rfl⟩
    · have hx := hx (by omega)
      have hy := hy (by omega)
      subst hx hy
      go_wp2
      go_ret
      exact ⟨by simp, rfl⟩

theorem compareEdges_any (l h l' h' : Int) (w : World) :
    Calls Try.prog 70 #[.agg #[.int .i64 l, .int .i64 h], .agg #[.int .i64 l', .int .i64 h']] w fun e w' => e = .returned (.int .i64 (cmpE l h l' h')) ∧ Below w.heap.size w w' := by
  go_enter Try.func70, Try.ntmps70
  go_wp2_with fail
  have hA : Below w.heap.size w ((w.alloc (.cells #[.int .i64 l, .int .i64 h] 64)).alloc (.cells #[.int .i64 l', .int .i64 h'] 64)) := ((Below.refl _ _).alloc (Nat.le_refl _) _).alloc (by simp) _
  go_region_held3 (fun W => W.cell? ⟨w.heap.size, 0, none⟩ = some (.int .i64 l) ∧ W.cell? ⟨w.heap.size, 1, none⟩ = some (.int .i64 h) ∧ W.cell? ⟨w.heap.size + 1, 0, none⟩ = some (.int .i64 l') ∧ W.cell? ⟨w.heap.size + 1, 1, none⟩ = some (.int .i64 h'))
    (first | go_keep)
    (first | (go_at_call 96; refine (compare_any _ _ _).mono ?_; rintro e w1 ⟨rfl, rfl⟩) | (go_at_call 95; refine (or_two _ _ _ _ _ _ (by simp [go_sem]; rfl) (by simp [go_sem]; rfl)).mono ?_; rintro e w1 ⟨rfl, rfl⟩))
  go_wp2
  go_ret
  exact ⟨rfl, (hA.alloc (by simp; omega) _).drew⟩

end Go.Proofs.Ytganjllofgggjag

/-
  The program's generic sort, with the edges' comparison: the same edges, in their order. For lists of at most a million edges.
-/
set_option linter.unusedVariables false
set_option linter.unusedSimpArgs false
namespace Go.Proofs.Ytganjllofgggjag
open Go.RowKit
attribute [local go_sem ↓] Go.wp_at_zero Go.wp_at_succ

/-- The front part is in its order, x has been put into it behind a. -/
theorem srt_put {a d : List Pr} {x : Pr} (h : Srt (a ++ d)) (hd : ∀ e ∈ d, lt2 x e) (ha : a = [] ∨ ∃ a' y, a = a' ++ [y] ∧ ¬ lt2 x y) : Srt (a ++ x :: d) := by
  unfold Srt at h ⊢
  rw [List.pairwise_append] at h ⊢
  refine ⟨h.1, ?_, fun e he f hf => ?_⟩
  · rw [List.pairwise_cons]
    refine ⟨fun e he hlt => ?_, h.2.1⟩
    exact lt2_irr x (lt2_trans (hd e he) hlt)
  · simp at hf
    rcases hf with rfl | hf
    · rcases ha with rfl | ⟨a', y, rfl, hy⟩
      · simp at he
      · rw [List.mem_append] at he
        rcases he with he | he
        · have := h.1
          rw [List.pairwise_append] at this
          exact le2_trans (this.2.2 e he y (by simp)) hy
        · simp at he
          subst he; exact hy
    · exact h.2.2 e he f hf

theorem put_perm {a d pre suf l : List Pr} {x : Pr} {k : Nat} (had : a ++ d = pre) (hk : pre.length = k) (h : (pre ++ x :: suf).Perm l) : (a ++ x :: d).length = k + 1 ∧ (a ++ x :: d ++ suf).Perm l := by
  subst had
  refine ⟨by simp at hk ⊢; omega, List.Perm.trans ?_ h⟩
  have e1 : a ++ x :: d ++ suf = a ++ x :: (d ++ suf) := by simp
  have e2 : a ++ d ++ x :: suf = (a ++ d) ++ x :: suf := rfl
  rw [e1]
  refine List.perm_middle.trans (List.Perm.trans ?_ List.perm_middle.symm)
  rw [List.append_assoc]
theorem gr_drewN' (w : World) (n : Nat) (row : Option Nat) : w.grownBy (w.drewN n) row := ⟨rfl, rfl, rfl, Nat.le_refl _, fun _ _ _ => rfl⟩

set_option maxRecDepth 100000 in
set_option maxHeartbeats 4000000 in
theorem sortBy_any (g cap : Nat) (l : List Pr) (hn : l.length ≤ 1000000) (w : World) (hl : ELies w g l) :
    Calls Try.prog 85 #[.slice (some ⟨g, 0, none⟩) l.length cap, .func (.func 70) #[] #[]] w fun e w' => e = .returned (.tuple #[]) ∧ (∃ l' : List Pr, l'.length = l.length ∧ l'.Perm l ∧ Srt l' ∧ ELies w' g l') ∧ w.grownBy w' (some g) := by
  go_enter Try.func85, Try.ntmps85
  go_wp2
  go_loopw [4] (fun x wr => ∃ (k : Nat) (pre suf : List Pr), x = .int .i64 k ∧ 1 ≤ k ∧ pre.length = min k l.length ∧ pre.length + suf.length = l.length ∧ (pre ++ suf).Perm l ∧ Srt pre ∧ ELies wr g (pre ++ suf) ∧ w.grownBy wr (some g)) (fun x _ => l.length - (intOf x).toNat)
  case atStart =>
    match l, hl with
    | [], hl => exact ⟨1, [], [], rfl, Nat.le_refl _, by simp, rfl, List.Perm.refl _, List.Pairwise.nil, hl, World.grownBy.refl _ _⟩
    | x :: t, hl => exact ⟨1, [x], t, rfl, Nat.le_refl _, by simp, by simp; omega, List.Perm.refl _, by simp [Srt], hl, World.grownBy.refl _ _⟩
  case round =>
    obtain ⟨k, pre, suf, rfl, hk1, hpk, hps, hperm, hsrt, hE, hg⟩ := hrel
    by_cases hlt : k < l.length
    rotate_left
    · have hsuf : suf = [] := List.eq_nil_of_length_eq_zero (by omega)
      subst hsuf
      rw [List.append_nil] at hE hperm
      have hlen : pre.length = l.length := by simpa using hps
      go_wp2
      simp [bodyPost, results, Try.results85, go_sem]
      exact ⟨⟨pre, hlen, hperm, hsrt, hE⟩, hg⟩
    have hpk' : pre.length = k := by omega
    match suf, hps with
    | [], hps => simp at hps; omega
    | x :: suf', hps =>
    have HP : Hid ((pre ++ x :: suf').Perm l) := hperm
    clear hperm hpk
    go_wp2
    go_loopw [5] (fun y wq => ∃ (i : Nat) (a d : List Pr), y = .int .i64 i ∧ a.length = i ∧ a ++ d = pre ∧ (∀ e ∈ d, lt2 x e) ∧ ELies wq g (a ++ x :: (d ++ suf')) ∧ w.grownBy wq (some g)) (fun y _ => (intOf y).toNat)
    case atStart => exact ⟨k, pre, [], rfl, hpk', List.append_nil _, fun e he => by simp at he, by simpa using hE, hg⟩
    case round =>
      clear hE hg
      obtain ⟨i, a, d, rfl, hai, had, hdx, hE, hg⟩ := hrel
      by_cases hi : 0 < i
      rotate_left
      · have hd : decide ((0 : Int) < (i : Int)) = false := by simp; omega
        have ha0 : a = [] := List.eq_nil_of_length_eq_zero (by omega)
        have HN : Hid (Srt (a ++ x :: d)) := srt_put (by rw [had]; exact hsrt) hdx (Or.inl ha0)
        have hpl : Hid ((a ++ x :: d).length = k + 1 ∧ (a ++ x :: d ++ suf').Perm l) := put_perm had hpk' HP.out
        have hE' : ELies wr g (a ++ x :: d ++ suf') := by simpa using hE
        go_wp2
        go_quiet (fail)
        go_wp2
        go_roundw
        case rel =>
          have := hpl.out
          exact ⟨k + 1, a ++ x :: d, suf', by go_num, by omega, by omega, by simp at hps; omega, this.2, HN.out, EHas.of_block hE' rfl, hg.trans (gr_drewN' _ _ _)⟩
        case measure => simp [intOf]; omega
      have hane : a ≠ [] := fun e => by subst e; simp at hai; omega
      obtain ⟨a', y, haa⟩ : ∃ a' y, a = a' ++ [y] := ⟨a.dropLast, a.getLast hane, (List.dropLast_concat_getLast hane).symm⟩
      have ha1 : a'.length = i - 1 := by rw [haa] at hai; simp at hai; omega
      have hx := hE.at
      rw [hai] at hx
      obtain ⟨c0, c1⟩ := hx
      have hE2 : ELies wr g (a' ++ y :: x :: (d ++ suf')) := by rw [haa] at hE; simpa using hE
      have hy := hE2.at
      rw [ha1] at hy
      obtain ⟨d0, d1⟩ := hy
      have hin : i < l.length := by
        have := congrArg List.length had
        simp at this
        omega
      have hkd : decide ((0 : Int) < (i : Int)) = true := by simp; omega
      have hi0 : (0 : Int) ≤ (i : Int) := by omega
      have hi2 : (i : Int) < (l.length : Int) := by omega
      have hk1' : (0 : Int) ≤ (i : Int) - 1 := by omega
      have hk2 : (i : Int) - 1 < (l.length : Int) := by omega
      have hk3 : IntKind.i64.wrap ((i : Int) - 1) = (i : Int) - 1 := by rw [IntKind.wrap_i64]; omega
      have hk4 : ((i : Int) - 1).toNat = i - 1 := by omega
      have hk5 : (1 : Int) ≤ (i : Int) := by omega
      have hk6 : (i : Int) ≤ (l.length : Int) := by omega
      have hk7 : 1 ≤ i := by omega
      have hcu := cmpE_up x.1 x.2 y.1 y.2
      have hg1 : w.grownBy wr.drew (some g) := hg.trans ⟨rfl, rfl, rfl, Nat.le_refl _, fun _ _ _ => rfl⟩
      by_cases hlt2 : lt2 x y
      · have hge : cmpE x.1 x.2 y.1 y.2 < 0 := hcu.2 hlt2
        clear hcu
        go_wp2
        go_region_held3 (fun w' => w'.cell? ⟨g, i * 2, none⟩ = some (.int .i64 x.1) ∧ w'.cell? ⟨g, i * 2 + 1, none⟩ = some (.int .i64 x.2) ∧ w'.cell? ⟨g, (i - 1) * 2, none⟩ = some (.int .i64 y.1) ∧ w'.cell? ⟨g, (i - 1) * 2 + 1, none⟩ = some (.int .i64 y.2))
          (first | (go_split_ands; refine ⟨?_, ?_, ?_, ?_⟩ <;> exact keep_cell hb2 (Nat.le_refl _) (by assumption)) | go_keep)
          (first | (go_at_call 70; refine (compareEdges_any _ _ _ _ _).mono ?_; rintro e w2 ⟨rfl, hb2⟩))
        have hg2 : w.grownBy w2 (some g) := hg1.trans ⟨hb2.os, hb2.tape, hb2.output, hb2.size, fun k hk _ => hb2.block k hk⟩
        have hE3 : ELies w2 g (a' ++ y :: x :: (d ++ suf')) := EHas.next (w := wr.drew) (EHas.of_block hE2 rfl) hb2
        have k0 : w2.cell? ⟨g, i * 2, none⟩ = some (.int .i64 x.1) := keep_cell hb2 (Nat.le_refl _) (by exact c0)
        have k1 : w2.cell? ⟨g, i * 2 + 1, none⟩ = some (.int .i64 x.2) := keep_cell hb2 (Nat.le_refl _) (by exact c1)
        have k2 : w2.cell? ⟨g, (i - 1) * 2, none⟩ = some (.int .i64 y.1) := keep_cell hb2 (Nat.le_refl _) (by exact d0)
        have k3 : w2.cell? ⟨g, (i - 1) * 2 + 1, none⟩ = some (.int .i64 y.2) := keep_cell hb2 (Nat.le_refl _) (by exact d1)
        have z0 := EHas.frozen hE3 (i * 2)
        have z1 := EHas.frozen hE3 (i * 2 + 1)
        have z2 := EHas.frozen hE3 ((i - 1) * 2)
        have z3 := EHas.frozen hE3 ((i - 1) * 2 + 1)
        have hii : a'.length + 1 = i := by omega
        have HR : Hid (ELies ((((w2.setCell ⟨g, i * 2, none⟩ (.int .i64 y.1)).setCell ⟨g, i * 2 + 1, none⟩ (.int .i64 y.2)).setCell ⟨g, (i - 1) * 2, none⟩ (.int .i64 x.1)).setCell ⟨g, (i - 1) * 2 + 1, none⟩ (.int .i64 x.2)) g (a' ++ x :: y :: (d ++ suf'))) := by
          have h4 := (((EHas.set hE3 (i * 2) y.1).set (i * 2 + 1) y.2).set ((i - 1) * 2) x.1).set ((i - 1) * 2 + 1) x.2
          have hlen : (a' ++ y :: x :: (d ++ suf')).length = (a' ++ x :: y :: (d ++ suf')).length := by simp
          rw [hlen] at h4
          refine EHas.congr h4 (fun j _ => ?_)
          have := er_swap a' (d ++ suf') x y j
          rw [hii, ha1] at this
          exact this
        have HG : Hid (w.grownBy ((((w2.setCell ⟨g, i * 2, none⟩ (.int .i64 y.1)).setCell ⟨g, i * 2 + 1, none⟩ (.int .i64 y.2)).setCell ⟨g, (i - 1) * 2, none⟩ (.int .i64 x.1)).setCell ⟨g, (i - 1) * 2 + 1, none⟩ (.int .i64 x.2)) (some g)) := (((hg2.trans (gr_setCell _ g _ _)).trans (gr_setCell _ g _ _)).trans (gr_setCell _ g _ _)).trans (gr_setCell _ g _ _)
        have HX : Hid ((∀ e ∈ y :: d, lt2 x e) ∧ a' ++ (y :: d) = pre) := ⟨fun e he => by
          simp at he
          rcases he with rfl | he
          · exact hlt2
          · exact hdx e he, by rw [← had, haa]; simp⟩
        have n1 : ¬ ((i - 1) * 2 = i * 2) := by omega
        have n2 : ¬ ((i - 1) * 2 = i * 2 + 1) := by omega
        have n3 : ¬ ((i - 1) * 2 + 1 = i * 2) := by omega
        have n4 : ¬ ((i - 1) * 2 + 1 = i * 2 + 1) := by omega
        clear hE hE2 hE3 hg hg1 hg2 hb2 c0 c1 d0 d1 hdx had haa hane hlt2 hge
        go_wp2
        go_big_region
        go_wp2
        go_roundw
        case rel => exact ⟨i - 1, a', y :: d, by rw [show ((i - 1 : Nat) : Int) = (i : Int) - 1 by omega], ha1, HX.out.2, HX.out.1, EHas.of_block HR.out rfl, HG.out.trans ⟨rfl, rfl, rfl, Nat.le_refl _, fun _ _ _ => rfl⟩⟩
        case measure => simp [intOf]; omega
      · have hge : ¬ cmpE x.1 x.2 y.1 y.2 < 0 := fun h => hlt2 (hcu.1 h)
        have hged : decide (cmpE x.1 x.2 y.1 y.2 < 0) = false := by simpa using hge
        clear hcu
        have HN : Hid (Srt (a ++ x :: d)) := srt_put (by rw [had]; exact hsrt) hdx (Or.inr ⟨a', y, haa, hlt2⟩)
        have hpl : Hid ((a ++ x :: d).length = k + 1 ∧ (a ++ x :: d ++ suf').Perm l) := put_perm had hpk' HP.out
        have hE' : ELies wr g (a ++ x :: d ++ suf') := by simpa using hE
        go_wp2
        go_region_held3 (fun w' => w'.cell? ⟨g, i * 2, none⟩ = some (.int .i64 x.1) ∧ w'.cell? ⟨g, i * 2 + 1, none⟩ = some (.int .i64 x.2) ∧ w'.cell? ⟨g, (i - 1) * 2, none⟩ = some (.int .i64 y.1) ∧ w'.cell? ⟨g, (i - 1) * 2 + 1, none⟩ = some (.int .i64 y.2))
          (first | (go_split_ands; refine ⟨?_, ?_, ?_, ?_⟩ <;> exact keep_cell hb2 (Nat.le_refl _) (by assumption)) | go_keep)
          (first | (go_at_call 70; refine (compareEdges_any _ _ _ _ _).mono ?_; rintro e w2 ⟨rfl, hb2⟩))
        have hg2 : w.grownBy w2 (some g) := hg1.trans ⟨hb2.os, hb2.tape, hb2.output, hb2.size, fun k hk _ => hb2.block k hk⟩
        have hE3 : ELies w2 g (a ++ x :: d ++ suf') := EHas.next (w := wr.drew) (EHas.of_block hE' rfl) hb2
        clear hE hE2 hE' hg hg1 hb2 c0 c1 d0 d1
        go_wp2
        go_roundw
        case rel =>
          have := hpl.out
          exact ⟨k + 1, a ++ x :: d, suf', by go_num, by omega, by omega, by simp at hps; omega, this.2, HN.out, hE3, hg2⟩
        case measure => simp [intOf]; omega

end Go.Proofs.Ytganjllofgggjag
