/-
  Order, the document's: the list in which the places are taken away.
-/
import Derived.Test.YtaddhiojahmbpabOrdTake
set_option linter.unusedVariables false
set_option linter.unusedSimpArgs false
namespace Go.Proofs.Ytaddhiojahmbpab
open Go.RowKit
attribute [local go_sem ↓] Go.wp_at_zero Go.wp_at_succ

def slen : Value → Nat
  | .slice _ n _ => n
  | _ => 0

/-- What stands while k places have been taken away: the list in block g, the square in bs, those that are gone in gb. -/
structure OS (base : Nat) (W0 : World) (p : Nat) (B : Nat → Nat → Bool) (bs gb g c k : Nat) (wr : World) : Prop where
  own : IOwn wr base g c k (run3 p B k).2.2
  sq : Sq wr bs p (run3 p B k).1
  gn : BHas wr gb p (run3 p B k).2.1
  bel : Below base W0 wr
theorem OS.next {base p bs gb g c k : Nat} {W0 wr w' : World} {B : Nat → Nat → Bool} (h : OS base W0 p B bs gb g c k wr) (hB : base ≤ W0.heap.size) (hb : Below wr.heap.size wr w') : OS base W0 p B bs gb g c k w' :=
  ⟨h.own.below hb h.own.lt, VHas.next h.sq hb, VHas.next h.gn hb, below_next h.bel hB hb⟩

theorem run3_sq (p : Nat) (B : Nat → Nat → Bool) (k : Nat) : (run3 p B (k + 1)).1 = tk (run3 p B k).1 (pick p (run3 p B k).1 (run3 p B k).2.1 p).1 := rfl
theorem run3_gn (p : Nat) (B : Nat → Nat → Bool) (k : Nat) : (run3 p B (k + 1)).2.1 = goneU (run3 p B k).2.1 (pick p (run3 p B k).1 (run3 p B k).2.1 p).1 := rfl
theorem run3_ls (p : Nat) (B : Nat → Nat → Bool) (k : Nat) : (run3 p B (k + 1)).2.2 = fun j => if j = k then ((pick p (run3 p B k).1 (run3 p B k).2.1 p).1 : Int) else (run3 p B k).2.2 j := rfl

/-- What the document's search for the next place holds: nothing yet, or the one that 'pick' tells. -/
def best (p : Nat) (B : Nat → Nat → Bool) (gone : Nat → Bool) (j : Nat) : Int := if noneB gone j then -1 else ((pick p B gone j).1 : Int)
def few (p : Nat) (B : Nat → Nat → Bool) (gone : Nat → Bool) (j : Nat) : Int := if noneB gone j then 0 else ((pick p B gone j).2 : Int)
theorem best_gone {p : Nat} {B : Nat → Nat → Bool} {gone : Nat → Bool} {j : Nat} (h : gone j = true) : best p B gone (j + 1) = best p B gone j ∧ few p B gone (j + 1) = few p B gone j := by
  have h1 : pick p B gone (j + 1) = pick p B gone j := by
    show (if gone j then pick p B gone j else _) = _
    rw [if_pos h]
  have h2 : noneB gone (j + 1) = noneB gone j := by simp [noneB, h]
  unfold best few
  rw [h1, h2]
  exact ⟨rfl, rfl⟩
theorem best_take {p : Nat} {B : Nat → Nat → Bool} {gone : Nat → Bool} {j : Nat} (hB : Fair B) (hj : j < p) (h : gone j = false) (hc : best p B gone j < 0 ∨ (cntB (B j) p : Int) < few p B gone j) : best p B gone (j + 1) = (j : Int) ∧ few p B gone (j + 1) = (cntB (B j) p : Int) := by
  have hlt : cntB (B j) p < (pick p B gone j).2 := by
    unfold best few at hc
    cases hn : noneB gone j
    · rw [hn] at hc
      simp at hc
      rcases hc with hc | hc
      · omega
      · exact hc
    · rw [pick_none j hn]
      exact cntB_less (i := j) hj (hB.2 j)
  have h1 : pick p B gone (j + 1) = (j, cntB (B j) p) := by
    show (if gone j then _ else if cntB (B j) p < (pick p B gone j).2 then (j, cntB (B j) p) else _) = _
    rw [if_neg (by rw [h]; simp), if_pos hlt]
  have h2 : noneB gone (j + 1) = false := by simp [noneB, h]
  unfold best few
  rw [h1, h2]
  exact ⟨rfl, rfl⟩
theorem best_stay {p : Nat} {B : Nat → Nat → Bool} {gone : Nat → Bool} {j : Nat} (h : gone j = false) (hc1 : ¬ best p B gone j < 0) (hc : ¬ (cntB (B j) p : Int) < few p B gone j) : best p B gone (j + 1) = best p B gone j ∧ few p B gone (j + 1) = few p B gone j := by
  have hn : noneB gone j = false := by
    cases hn : noneB gone j
    · rfl
    · simp [best, hn] at hc1
  unfold few at hc
  rw [hn] at hc
  simp at hc
  have h1 : pick p B gone (j + 1) = pick p B gone j := by
    show (if gone j then _ else if cntB (B j) p < (pick p B gone j).2 then (j, cntB (B j) p) else pick p B gone j) = _
    rw [if_neg (by rw [h]; simp), if_neg (by omega)]
  have h2 : noneB gone (j + 1) = false := by simp [noneB, h]
  unfold best few
  rw [h1, h2, hn]
  exact ⟨rfl, rfl⟩
theorem few_in {p : Nat} {B : Nat → Nat → Bool} {gone : Nat → Bool} (j : Nat) : 0 ≤ few p B gone j ∧ few p B gone j ≤ p := by
  unfold few
  have := pick_le (p := p) (B := B) (gone := gone) j
  split <;> omega

set_option maxHeartbeats 4000000 in
theorem l3Order_any (p : Nat) (ao : Option Addr) (n cap : Nat) (F T G : Nat → Int) (hp1 : 1 ≤ p) (hp : p ≤ 24) (hn : n ≤ 100) (hF : ∀ k, k < n → 0 ≤ F k ∧ F k < (p : Int)) (hT : ∀ k, k < n → 0 ≤ T k ∧ T k < (p : Int)) (hFT : ∀ k, k < n → F k ≠ T k) (w : World) (hr : Row w ao n F T G) :
    Calls Try.prog 37 #[.agg #[.int .i64 (p : Int), .slice ao n cap]] w fun e w' => ∃ g c, e = .returned (.slice (some ⟨g, 0, none⟩) p c) ∧ w.heap.size ≤ g ∧ IHas w' g p (run3 p (nbA F T n) p).2.2 ∧ Below w.heap.size w w' ∧ p ≤ c := by
  have hfair : Fair (nbA F T n) := fair_nbA n (fun k hk => by have := hF k hk; have := hT k hk; have := hFT k hk; omega)
  have hsqc := fun W hr' => l3Square_any p ao n cap F T G hp1 hp hn hF hT hFT W hr'
  generalize nbA F T n = B at hfair hsqc ⊢
  have HF : Hid (Fair B) := hfair
  have HSQ : Hid (∀ W, Row W ao n F T G → Calls Try.prog 32 #[.agg #[.int .i64 (p : Int), .slice ao n cap]] W fun e w' => e = .returned (.slice (some ⟨W.heap.size + 1, 0, none⟩) (p * p) (p * p)) ∧ Sq w' (W.heap.size + 1) p B ∧ Below W.heap.size W w') := hsqc
  clear hfair hsqc hF hT hFT
  go_enter Try.func37, Try.ntmps37
  go_wp2_with fail
  refine (HSQ.out _ (hr.alloc _)).mono ?_
  rintro e w1 ⟨rfl, hsq1, hb1⟩
  have hA1 := boxed hb1
  obtain ⟨x0, x1, xs⟩ := box2 hA1
  simp only [World.size_alloc] at hsq1 ⊢
  have hs1 := VHas.lt hsq1
  have hmk := make_bools p (by omega)
  go_wp2_with fail
  clear hmk
  have hO : OS (w.heap.size + 1) (w.alloc (.cells #[.int .i64 (p : Int), .slice ao n cap] 32)) p B (w.heap.size + 1 + 1) w1.heap.size (w1.heap.size + 1) 0 0 ((w1.alloc (.cells (madeCells #[.bool false] p) 4)).alloc (.cells #[] 2)) := by
    refine ⟨?_, ?_, ?_, (hA1.alloc (by omega) _).alloc (by simp; omega) _⟩
    · simpa using IOwn.empty (w1.alloc (.cells (madeCells #[.bool false] p) 4)) (base := w.heap.size + 1) (by simp; omega) _
    · exact (hsq1.alloc _).alloc _
    · exact (made_bools w1 p).alloc _
  clear hsq1 hb1 x0 x1
  go_loopw [5] (fun d wr => ∃ k g c : Nat, k ≤ p ∧ d = .slice (some ⟨g, 0, none⟩) k c ∧ OS (w.heap.size + 1) (w.alloc (.cells #[.int .i64 (p : Int), .slice ao n cap] 32)) p B (w.heap.size + 1 + 1) w1.heap.size g c k wr ∧ g ≠ (w.heap.size + 1 + 1) ∧ g ≠ w1.heap.size) (fun d _ => p - slen d)
  case atStart => exact ⟨0, _, 0, Nat.zero_le _, rfl, hO, by omega, by omega⟩
  case round =>
    clear hO
    obtain ⟨k, g, c, hk, rfl, hS, hg1, hg2⟩ := hrel
    obtain ⟨x0, x1, xs2⟩ := box2 hS.bel
    by_cases hlt : k < p
    rotate_left
    · have hkp : k = p := by omega
      subst hkp
      go_wp2
      go_ret
      exact ⟨g, c, rfl, by have := hS.own.base; omega, hS.own.has, unbox hS.bel (by omega), hS.own.room⟩
    have hlt' : (k : Int) < (p : Int) := by omega
    have hgsz := hS.own.lt
    have hgb0 := hS.own.base
    have hfk := run3_fair (p := p) HF.out k
    have hpl := run3_place HF.out hlt
    have hnn := (run3_gone HF.out k (by omega)).2 hlt
    have HK : Hid (Fair (run3 p B k).1 ∧ (pick p (run3 p B k).1 (run3 p B k).2.1 p).1 < p ∧ noneB (run3 p B k).2.1 p = false) := ⟨hfk, hpl, hnn⟩
    clear hfk hpl hnn
    go_wp2
    go_loopw [6, 7, 8] (fun x y z wr2 => ∃ j : Nat, j ≤ p ∧ x = .int .i64 (best p (run3 p B k).1 (run3 p B k).2.1 j) ∧ y = .int .i64 (few p (run3 p B k).1 (run3 p B k).2.1 j) ∧ z = .int .i64 j ∧ OS (w.heap.size + 1) (w.alloc (.cells #[.int .i64 (p : Int), .slice ao n cap] 32)) p B (w.heap.size + 1 + 1) w1.heap.size g c k wr2) (fun _ _ z _ => p - (intOf z).toNat)
    case atStart => exact ⟨0, Nat.zero_le _, rfl, rfl, rfl, hS⟩
    case round =>
      clear hS x0 x1 xs2
      obtain ⟨j, hj, rfl, rfl, rfl, hS⟩ := hrel
      obtain ⟨x0, x1, xs2⟩ := box2 hS.bel
      by_cases hltj : j < p
      · have hltj' : (j : Int) < (p : Int) := by omega
        have d0 := VHas.cell hS.gn hltj
        have hfw := few_in (p := p) (B := (run3 p B k).1) (gone := (run3 p B k).2.1) j
        cases hgj : (run3 p B k).2.1 j
        · rw [hgj] at d0
          have hcl := cntB_le ((run3 p B k).1 j) p
          have hnb := l3Neighbours_any (w.heap.size + 1 + 1) p j _ hp hltj wr hS.sq
          by_cases hc1 : best p (run3 p B k).1 (run3 p B k).2.1 j < 0
          · have hbt := best_take (p := p) HK.out.1 hltj hgj (Or.inl hc1)
            have HBT : Hid (best p (run3 p B k).1 (run3 p B k).2.1 (j + 1) = (j : Int) ∧ few p (run3 p B k).1 (run3 p B k).2.1 (j + 1) = (cntB ((run3 p B k).1 j) p : Int)) := hbt
            clear hbt
            go_wp2_with (go_at_call 34; refine hnb.mono ?_; rintro e w2 ⟨g2, c2, rfl, _, _, hb2⟩)
            go_roundw
            case rel => exact ⟨j + 1, by omega, by rw [HBT.out.1], by rw [HBT.out.2], by go_num, hS.next (by simp) hb2⟩
            case measure => simp [intOf]; omega
          · by_cases hc2 : (cntB ((run3 p B k).1 j) p : Int) < few p (run3 p B k).1 (run3 p B k).2.1 j
            · have hbt := best_take (p := p) HK.out.1 hltj hgj (Or.inr hc2)
              have HBT : Hid (best p (run3 p B k).1 (run3 p B k).2.1 (j + 1) = (j : Int) ∧ few p (run3 p B k).1 (run3 p B k).2.1 (j + 1) = (cntB ((run3 p B k).1 j) p : Int)) := hbt
              clear hbt
              go_wp2_with (go_at_call 34; refine hnb.mono ?_; rintro e w2 ⟨g2, c2, rfl, _, _, hb2⟩)
              go_roundw
              case rel => exact ⟨j + 1, by omega, by rw [HBT.out.1], by rw [HBT.out.2], by go_num, hS.next (by simp) hb2⟩
              case measure => simp [intOf]; omega
            · have hbt := best_stay (p := p) hgj hc1 hc2
              have HBT : Hid (best p (run3 p B k).1 (run3 p B k).2.1 (j + 1) = best p (run3 p B k).1 (run3 p B k).2.1 j ∧ few p (run3 p B k).1 (run3 p B k).2.1 (j + 1) = few p (run3 p B k).1 (run3 p B k).2.1 j) := hbt
              clear hbt
              go_wp2_with (go_at_call 34; refine hnb.mono ?_; rintro e w2 ⟨g2, c2, rfl, _, _, hb2⟩)
              go_roundw
              case rel => exact ⟨j + 1, by omega, by rw [HBT.out.1], by rw [HBT.out.2], by go_num, hS.next (by simp) hb2⟩
              case measure => simp [intOf]; omega
        · rw [hgj] at d0
          have hbt := best_gone (p := p) (B := (run3 p B k).1) hgj
          have HBT : Hid (best p (run3 p B k).1 (run3 p B k).2.1 (j + 1) = best p (run3 p B k).1 (run3 p B k).2.1 j ∧ few p (run3 p B k).1 (run3 p B k).2.1 (j + 1) = few p (run3 p B k).1 (run3 p B k).2.1 j) := hbt
          clear hbt
          go_wp2
          go_roundw
          case rel => exact ⟨j + 1, by omega, by rw [HBT.out.1], by rw [HBT.out.2], by go_num, hS⟩
          case measure => simp [intOf]; omega
      have hjp : j = p := by omega
      subst hjp
      obtain ⟨hfk, hpl, hnn⟩ := HK.out
      have hbe : best j (run3 j B k).1 (run3 j B k).2.1 j = ((pick j (run3 j B k).1 (run3 j B k).2.1 j).1 : Int) := by simp [best, hnn]
      rw [hbe]
      have e1 := run3_sq j B k
      have e2 := run3_gn j B k
      have e3 := run3_ls j B k
      clear hbe HK hnn
      generalize (pick j (run3 j B k).1 (run3 j B k).2.1 j).1 = a at hpl e1 e2 e3 ⊢
      have hpl' : (a : Int) < (j : Int) := by omega
      have d0 := VHas.cell hS.gn hpl
      have z0 := VHas.frozen hS.gn a
      have hsl := VHas.lt hS.sq
      have hgl := VHas.lt hS.gn
      have E1 : Hid ((run3 j B (k + 1)).1 = tk (run3 j B k).1 a) := e1
      have E2 : Hid ((run3 j B (k + 1)).2.1 = goneU (run3 j B k).2.1 a) := e2
      have E3 : Hid ((run3 j B (k + 1)).2.2 = fun i => if i = k then (a : Int) else (run3 j B k).2.2 i) := e3
      clear e1 e2 e3
      have hsg : (w.heap.size + 1 + 1) ≠ w1.heap.size := by omega
      have hg1' : gr_setCell wr w1.heap.size a (.bool true) = gr_setCell wr w1.heap.size a (.bool true) := rfl
      have G1 := BHas.put hS.gn a true
      have G2 := VHas.other (i := a) hS.sq hsg (.bool true)
      have G3 := hS.own.grown (gr_setCell wr w1.heap.size a (.bool true)) hg2
      have G4 := hS.bel.setCell (p := ⟨w1.heap.size, a, none⟩) (by simp; omega) (.bool true)
      have x0' : (wr.setCell ⟨w1.heap.size, a, none⟩ (.bool true)).cell? ⟨w.heap.size, 0, none⟩ = some (.int .i64 (j : Int)) := (box2 G4).1
      clear hg1'
      go_wp2_with fail
      refine (l3Take_any _ j a _ hp hpl hfk _ G2).mono ?_
      rintro e w3 ⟨rfl, hq3, hg3⟩
      have hs3 := hg3.size
      rw [show (wr.setCell ⟨w1.heap.size, a, none⟩ (.bool true)).heap.size = wr.heap.size by simp [World.setCell]] at hs3
      have K1 := VHas.grown G1 hg3 (by simp; omega)
      have K3 := G3.grown hg3 hg1
      have K4 := G4.trans (gr_below hg3 (by omega) (by have := G4.size; simpa using this))
      obtain ⟨y0, y1, ys⟩ := box2 K4
      have hgl3 := K3.lt
      clear G1 G2 G3 G4 hg3 x0' d0 z0 x0 x1 hS
      go_wp2_with (at_builtin; refine wpList_append_int rfl _ _ rfl (w.heap.size + 1) g c k _ rfl (by exact K3.below ((Below.refl _ _).alloc (Nat.le_refl _) _) hgl3) ⟨w3.heap.size, 0, none⟩ 1 (a : Int) rfl (by simp [go_sem]) (by omega) (by simp; omega) ?_; intro g' c' w4 hown4 hgrow4 hat4)
      have hal := (Below.refl w3.heap.size w3).alloc (Nat.le_refl _) (.cells #[.int .i64 (a : Int)] 2)
      have R : OS (w.heap.size + 1) (w.alloc (.cells #[.int .i64 (j : Int), .slice ao n cap] 32)) j B (w.heap.size + 1 + 1) w1.heap.size g' c' (k + 1) w4 := by
        refine ⟨?_, ?_, ?_, (K4.trans (hal.mono (by omega))).grown hgrow4 (by simp; omega) (fun q hq => by cases hq; omega)⟩
        · rw [E3.out]
          exact hown4 _ (fun q hq => if_neg (by omega)) (if_pos rfl)
        · rw [E1.out]
          exact VHas.grown (VHas.next hq3 hal) hgrow4 (by simp; omega)
        · rw [E2.out]
          exact (VHas.grown (VHas.next K1 hal) hgrow4 (by simp; omega)).congr (fun q _ => by unfold goneU; rfl)
      have hne : g' ≠ w.heap.size + 1 + 1 ∧ g' ≠ w1.heap.size := by
        rcases hat4 with e | e
        · rw [e]; exact ⟨hg1, hg2⟩
        · simp at e; omega
      clear K1 K3 K4 hq3 hown4 hgrow4 hat4 y0 y1
      go_wp2
      go_roundw
      case rel => exact ⟨k + 1, g', c', by omega, rfl, R, hne.1, hne.2⟩
      case measure => simp [slen]; omega

end Go.Proofs.Ytaddhiojahmbpab
