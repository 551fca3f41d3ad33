/-
  Helpers, merged: EqI, RecP, RecS, RwSpec, Copy3, RwImpl.
-/
import Derived.Test.YteibbknpcgcjjabGreatPack5
import Derived.Test.YteibbknpcgcjjabGreatPack1
import Derived.Test.YteibbknpcgcjjabGreatPack4
import Derived.Test.YteibbknpcgcjjabGreatPack10
import Derived.Test.YteibbknpcgcjjabGreatPack9
import Derived.Test.YteibbknpcgcjjabGreatPack2
import Derived.Deep.QuietTactic
import Derived.Deep.Cut
/-
  Two lists of numbers held against each other, the document's way and the program's: of metrics.
-/
set_option linter.unusedVariables false
set_option linter.unusedSimpArgs false
namespace Go.Proofs.YteibbknpcgcjjabGreat
open Go.RowKit Go.Deep Go.Joins
attribute [local go_sem ↓] Go.wp_at_zero Go.wp_at_succ

/-- Two lists of numbers are the same. -/
def SameI (n m : Nat) (f g : Nat → Int) : Prop := n = m ∧ ∀ i, i < n → f i = g i
set_option maxHeartbeats 1000000 in
theorem equalI_any (ao ao' : Option Addr) (n m cap cap' : Nat) (f g : Nat → Int) (hn : n ≤ 1048576) (hm : m ≤ 1048576) (w : World) (hr : IRow w ao n f) (hr' : IRow w ao' m g) :
    Calls Tryz.prog 108 #[.slice ao n cap, .slice ao' m cap'] w fun e w' => BAns e (SameI n m f g) ∧ Below w.heap.size w w' := by
  by_cases hnm : n = m
  rotate_left
  · have HN : Hid (¬ SameI n m f g) := fun h => hnm h.1
    have hnm' : ¬ (n : Int) = (m : Int) := by omega
    go_enter Tryz.func108, Tryz.ntmps108
    go_wp2
    go_ret
    exact ⟨bans_no HN.out, Below.refl _ _⟩
  subst hnm
  go_enter Tryz.func108, Tryz.ntmps108
  go_wp2
  go_loopw [13] (fun x wr => ∃ k : Nat, k ≤ n ∧ x = .int .i64 k ∧ (∀ i, i < k → f i = g i) ∧ Below w.heap.size w wr) (fun x _ => n - (intOf x).toNat)
  case atStart => exact ⟨0, Nat.zero_le _, rfl, fun i hi => by omega, Below.refl _ _⟩
  case round =>
    obtain ⟨k, hk, rfl, hall, hbel⟩ := hrel
    have HA : Hid (∀ i, i < k → f i = g i) := hall
    clear hall
    by_cases hlt : k < n
    rotate_left
    · have hkn : k = n := by omega
      subst hkn
      go_wp2
      go_ret
      exact ⟨bans_yes ⟨rfl, HA.out⟩, hbel⟩
    obtain ⟨b, o, hao, c0⟩ := (hr.below hbel (Nat.le_refl _)) k hlt
    subst hao
    obtain ⟨b', o', hao', d0⟩ := (hr'.below hbel (Nat.le_refl _)) k hlt
    subst hao'
    have hk1 : (0 : Int) ≤ (k : Int) := by omega
    have hk2 : (k : Int) < (n : Int) := by omega
    by_cases he : f k = g k
    · have HE : Hid (f k = g k) := he
      rw [← he] at d0
      clear he
      go_wp2
      (try go_quiet (fail))
      go_wp2
      go_roundw
      case rel => exact ⟨k + 1, by omega, by go_num, fun i hi => by
        by_cases x : i = k
        · subst x; exact HE.out
        · exact HA.out i (by omega), by first | exact below_drewN hbel _ | exact hbel⟩
      case measure => simp [intOf]; omega
    · have HE : Hid (¬ SameI n n f g) := fun h => he (h.2 k hlt)
      go_wp2
      (try go_quiet (fail))
      go_wp2
      go_ret
      exact ⟨bans_no HE.out, by first | exact below_drewN hbel _ | exact hbel⟩

set_option maxHeartbeats 2000000 in
theorem sameMetric_any (ao : Option Addr) (n acap : Nat) (f : Nat → Int) (bo : Option Addr) (m bcap : Nat) (g : Nat → Int) (co : Option Addr) (u ccap : Nat) (f' : Nat → Int) (dO : Option Addr) (v dcap : Nat) (g' : Nat → Int) (hn : n ≤ 1048576) (hm : m ≤ 1048576) (hu : u ≤ 1048576) (hv : v ≤ 1048576) (w : World) (ha : IRow w ao n f) (hb : IRow w bo m g) (hc : IRow w co u f') (hd : IRow w dO v g') :
    Calls Tryz.prog 58 #[.agg #[.slice ao n acap, .slice bo m bcap], .agg #[.slice co u ccap, .slice dO v dcap]] w fun e w' => BAns e (SameI n u f f' ∧ SameI m v g g') ∧ Below w.heap.size w w' := by
  have hB0 : Below w.heap.size w ((w.alloc (.cells #[.slice ao n acap, .slice bo m bcap] 34)).alloc (.cells #[.slice co u ccap, .slice dO v dcap] 34)) := ((Below.refl _ w).alloc (Nat.le_refl _) _).alloc (by simp) _
  have q1 : ((w.alloc (.cells #[.slice ao n acap, .slice bo m bcap] 34)).alloc (.cells #[.slice co u ccap, .slice dO v dcap] 34)).cell? ⟨w.heap.size, 1, none⟩ = some (.slice bo m bcap) := by simp [go_sem]
  have q3 : ((w.alloc (.cells #[.slice ao n acap, .slice bo m bcap] 34)).alloc (.cells #[.slice co u ccap, .slice dO v dcap] 34)).cell? ⟨w.heap.size + 1, 1, none⟩ = some (.slice dO v dcap) := by simp [go_sem]
  go_enter Tryz.func58, Tryz.ntmps58
  go_wp2_with fail
  refine (equalI_any ao co n u acap ccap f f' hn hu _ (ha.below hB0 (Nat.le_refl _)) (hc.below hB0 (Nat.le_refl _))).mono ?_
  rintro e w1 ⟨⟨x, rfl, hx⟩, hb1⟩
  replace q1 := keep_cell hb1 (Nat.le_refl _) q1
  replace q3 := keep_cell hb1 (Nat.le_refl _) q3
  have hB1 := below_next hB0 (Nat.le_refl _) hb1
  clear hb1 hB0
  cases x
  · have HN : Hid (¬ (SameI n u f f' ∧ SameI m v g g')) := fun y => by have := hx.2 y.1; cases this
    clear hx
    go_wp2
    go_ret
    exact ⟨bans_no HN.out, hB1⟩
  have HY : Hid (SameI n u f f') := hx.1 rfl
  clear hx
  go_wp2_with fail
  refine (equalI_any bo dO m v bcap dcap g g' hm hv _ (hb.below hB1 (Nat.le_refl _)) (hd.below hB1 (Nat.le_refl _))).mono ?_
  rintro e w2 ⟨⟨x, rfl, hx⟩, hb2⟩
  have hB2 := below_next hB1 (Nat.le_refl _) hb2
  clear hb2 hB1
  go_wp2
  go_ret
  exact ⟨⟨x, rfl, hx.trans ⟨fun h => ⟨HY.out, h⟩, fun h => h.2⟩⟩, hB2⟩

end Go.Proofs.YteibbknpcgcjjabGreat

/-
  A map that is weighed anew is as right as it was; what Recustomize answers: the plain part.
-/
set_option linter.unusedVariables false
set_option linter.unusedSimpArgs false
namespace Go.Proofs.YteibbknpcgcjjabGreat

theorem ord_w {p : Int} {n : Nat} {F T G H : Nat → Int} {k : Nat} {P : Nat → Int} (h : ordB p n F T G k P = true) (hg : graphB p n F T H = true) : ordB p n F T H k P = true := by
  have h1 := ordB_parts h
  unfold ordB at h ⊢
  simp [h1.2.1, hg] at h ⊢
  exact h

/-- Recustomize goes through. -/
def RcOk (p : Int) (n : Nat) (F T G : Nat → Int) (k : Nat) (P : Nat → Int) (m : Nat) (L H : Nat → Int) (u : Nat) (U : Nat → Int) (v : Nat) (V : Nat → Int) (ok : Bool) : Prop :=
  ok = true ∧ HOk p n F T G k P m L H ∧ SameI m u (cusT p n F T G P).1 U ∧ SameI m v (cusT p n F T G P).2 V

end Go.Proofs.YteibbknpcgcjjabGreat

/-
  Two metrics held against each other, the document's way.
-/
set_option linter.unusedVariables false
set_option linter.unusedSimpArgs false
namespace Go.Proofs.YteibbknpcgcjjabGreat
open Go.RowKit Go.Deep Go.Joins
attribute [local go_sem ↓] Go.wp_at_zero Go.wp_at_succ

set_option maxRecDepth 100000 in
set_option maxHeartbeats 2000000 in
theorem l5Same_any (ao : Option Addr) (n acap : Nat) (f : Nat → Int) (bo : Option Addr) (m bcap : Nat) (g : Nat → Int) (co : Option Addr) (u ccap : Nat) (f' : Nat → Int) (dO : Option Addr) (v dcap : Nat) (g' : Nat → Int) (hn : n ≤ 1048576) (hm : m ≤ 1048576) (hu : u ≤ 1048576) (hv : v ≤ 1048576) (w : World) (ha : IRow w ao n f) (hb : IRow w bo m g) (hc : IRow w co u f') (hd : IRow w dO v g') :
    Calls Tryz.prog 110 #[.agg #[.slice ao n acap, .slice bo m bcap], .agg #[.slice co u ccap, .slice dO v dcap]] w fun e w' => BAns e (SameI n u f f' ∧ SameI m v g g') ∧ Below w.heap.size w w' := by
  have hB0 : Below w.heap.size w ((w.alloc (.cells #[.slice ao n acap, .slice bo m bcap] 34)).alloc (.cells #[.slice co u ccap, .slice dO v dcap] 34)) := ((Below.refl _ w).alloc (Nat.le_refl _) _).alloc (by simp) _
  by_cases h1 : (n : Int) = (u : Int)
  rotate_left
  · have HN : Hid (¬ (SameI n u f f' ∧ SameI m v g g')) := fun x => h1 (by have := x.1.1; omega)
    go_enter Tryz.func110, Tryz.ntmps110
    go_wp2
    go_ret
    exact ⟨bans_no HN.out, hB0⟩
  by_cases h2 : (m : Int) = (v : Int)
  rotate_left
  · have HN : Hid (¬ (SameI n u f f' ∧ SameI m v g g')) := fun x => h2 (by have := x.2.1; omega)
    go_enter Tryz.func110, Tryz.ntmps110
    go_wp2
    go_ret
    exact ⟨bans_no HN.out, hB0⟩
  obtain rfl : n = u := by omega
  obtain rfl : m = v := by omega
  clear h1 h2
  have q0 : ((w.alloc (.cells #[.slice ao n acap, .slice bo m bcap] 34)).alloc (.cells #[.slice co n ccap, .slice dO m dcap] 34)).cell? ⟨w.heap.size, 0, none⟩ = some (.slice ao n acap) := by simp [go_sem]
  have q1 : ((w.alloc (.cells #[.slice ao n acap, .slice bo m bcap] 34)).alloc (.cells #[.slice co n ccap, .slice dO m dcap] 34)).cell? ⟨w.heap.size, 1, none⟩ = some (.slice bo m bcap) := by simp [go_sem]
  have q2 : ((w.alloc (.cells #[.slice ao n acap, .slice bo m bcap] 34)).alloc (.cells #[.slice co n ccap, .slice dO m dcap] 34)).cell? ⟨w.heap.size + 1, 0, none⟩ = some (.slice co n ccap) := by simp [go_sem]
  have q3 : ((w.alloc (.cells #[.slice ao n acap, .slice bo m bcap] 34)).alloc (.cells #[.slice co n ccap, .slice dO m dcap] 34)).cell? ⟨w.heap.size + 1, 1, none⟩ = some (.slice dO m dcap) := by simp [go_sem]
  go_enter Tryz.func110, Tryz.ntmps110
  go_wp2
  have HR : Hid (IRow w ao n f ∧ IRow w bo m g ∧ IRow w co n f' ∧ IRow w dO m g') := ⟨ha, hb, hc, hd⟩
  clear ha hb hc hd
  generalize (w.alloc (.cells #[.slice ao n acap, .slice bo m bcap] 34)).alloc (.cells #[.slice co n ccap, .slice dO m dcap] 34) = W0 at hB0 q0 q1 q2 q3 ⊢
  go_loopw [5] (fun x wr => ∃ j : Nat, j ≤ n ∧ x = .int .i64 j ∧ (∀ i, i < j → f i = f' i) ∧ Below W0.heap.size W0 wr) (fun x _ => n - (intOf x).toNat)
  case atStart => exact ⟨0, Nat.zero_le _, rfl, fun i hi => by omega, Below.refl _ _⟩
  case round =>
    obtain ⟨j, hj, rfl, hall, hbel⟩ := hrel
    have HA : Hid (∀ i, i < j → f i = f' i) := hall
    have p0 := keep_cell hbel (Nat.le_refl _) q0
    have p1 := keep_cell hbel (Nat.le_refl _) q1
    have p2 := keep_cell hbel (Nat.le_refl _) q2
    have p3 := keep_cell hbel (Nat.le_refl _) q3
    have hB1 := below_next hB0 (Nat.le_refl _) hbel
    clear hall
    by_cases hlt : j < n
    · clear q0 q1 q2 q3
      obtain ⟨b1, o1, e1, c1⟩ := (HR.out.1.below hB1 (Nat.le_refl _)) j hlt
      subst e1
      obtain ⟨b2, o2, e2, c2⟩ := (HR.out.2.2.1.below hB1 (Nat.le_refl _)) j hlt
      subst e2
      have hk1 : (0 : Int) ≤ (j : Int) := by omega
      have hk2 : (j : Int) < (n : Int) := by omega
      by_cases he : f j = f' j
      · have HE : Hid (f j = f' j) := he
        rw [← he] at c2
        clear he
        go_wp2
        (try go_quiet (fail))
        go_wp2
        go_roundw
        case rel => exact ⟨j + 1, by omega, by go_num, fun i hi => by
          by_cases x : i = j
          · subst x; exact HE.out
          · exact HA.out i (by omega), by first | exact below_drewN hbel _ | exact hbel⟩
        case measure => simp [intOf]; omega
      · have HN : Hid (¬ (SameI n n f f' ∧ SameI m m g g')) := fun x => he (x.1.2 j hlt)
        go_wp2
        (try go_quiet (fail))
        go_wp2
        go_ret
        exact ⟨bans_no HN.out, by first | exact below_drewN hB1 _ | exact hB1⟩
    have hjn : j = n := by omega
    subst hjn
    have HF : Hid (SameI j j f f') := ⟨rfl, HA.out⟩
    clear HA p0 p1 p2 p3
    have p0 := keep_cell hbel (Nat.le_refl _) q0
    have p1 := keep_cell hbel (Nat.le_refl _) q1
    go_wp2
    clear p0 p1
    go_loopw [6] (fun x wq => ∃ j2 : Nat, j2 ≤ m ∧ x = .int .i64 j2 ∧ (∀ i, i < j2 → g i = g' i) ∧ Below W0.heap.size W0 wq) (fun x _ => m - (intOf x).toNat)
    case atStart => exact ⟨0, Nat.zero_le _, rfl, fun i hi => by omega, hbel⟩
    case round =>
      clear hbel hB1
      obtain ⟨j2, hj2, rfl, hall, hbel⟩ := hrel
      have HA : Hid (∀ i, i < j2 → g i = g' i) := hall
      have p0 := keep_cell hbel (Nat.le_refl _) q0
      have p1 := keep_cell hbel (Nat.le_refl _) q1
      have p2 := keep_cell hbel (Nat.le_refl _) q2
      have p3 := keep_cell hbel (Nat.le_refl _) q3
      have hB1 := below_next hB0 (Nat.le_refl _) hbel
      clear hall q0 q1 q2 q3
      by_cases hlt2 : j2 < m
      · obtain ⟨b1, o1, e1, c1⟩ := (HR.out.2.1.below hB1 (Nat.le_refl _)) j2 hlt2
        subst e1
        obtain ⟨b2, o2, e2, c2⟩ := (HR.out.2.2.2.below hB1 (Nat.le_refl _)) j2 hlt2
        subst e2
        have hk1 : (0 : Int) ≤ (j2 : Int) := by omega
        have hk2 : (j2 : Int) < (m : Int) := by omega
        by_cases he : g j2 = g' j2
        · have HE : Hid (g j2 = g' j2) := he
          rw [← he] at c2
          clear he
          go_wp2
          (try go_quiet (fail))
          go_wp2
          go_roundw
          case rel => exact ⟨j2 + 1, by omega, by go_num, fun i hi => by
            by_cases x : i = j2
            · subst x; exact HE.out
            · exact HA.out i (by omega), by first | exact below_drewN hbel _ | exact hbel⟩
          case measure => simp [intOf]; omega
        · have HN : Hid (¬ (SameI j j f f' ∧ SameI m m g g')) := fun x => he (x.2.2 j2 hlt2)
          go_wp2
          (try go_quiet (fail))
          go_wp2
          go_ret
          exact ⟨bans_no HN.out, by first | exact below_drewN hB1 _ | exact hB1⟩
      have hjm : j2 = m := by omega
      subst hjm
      have HY : Hid (SameI j j f f' ∧ SameI j2 j2 g g') := ⟨HF.out, rfl, HA.out⟩
      go_wp2
      go_ret
      exact ⟨bans_yes HY.out, hB1⟩

end Go.Proofs.YteibbknpcgcjjabGreat

/-
  The document's Reweigh answers the weights that 'resOf' tells, in new memory.
-/
set_option linter.unusedVariables false
set_option linter.unusedSimpArgs false
namespace Go.Proofs.YteibbknpcgcjjabGreat
open Go.RowKit Go.Maps
attribute [local go_sem ↓] Go.wp_at_zero Go.wp_at_succ

theorem resOf_bad {p : Int} {n : Nat} {F T G : Nat → Int} {m : Nat} {A B C : Nat → Int} (h : graphB p n F T G = false) : resOf p n F T G m A B C = none := by simp [resOf, h]
theorem resOf_good {p : Int} {n : Nat} {F T G : Nat → Int} {m : Nat} {A B C : Nat → Int} (h : graphB p n F T G = true) : resOf p n F T G m A B C = rw' F T G A B C n m := by simp [resOf, h]
/-- What stands in memory while the document's Reweigh goes through the new arcs: the copy in its box, its weights so far, all else as it was. -/
structure RwI (w w2 : World) (p : Int) (ao : Option Addr) (n cap g capg : Nat) (F T H : Nat → Int) (wr : World) : Prop where
  o0 : wr.cell? ⟨w2.heap.size, 0, none⟩ = some (.int .i64 p)
  o1 : wr.cell? ⟨w2.heap.size, 1, none⟩ = some (.slice (some ⟨g, 0, none⟩) n capg)
  has : 0 < n → Has wr g n (ar F T H)
  bel : Below (w.heap.size + 2) ((w.alloc (.cells #[.int .i64 p, .slice ao n cap] 26)).alloc (.cells #[.int .i64 0, .slice none 0 0] 26)) wr
theorem RwI.drewN {w w2 : World} {p : Int} {ao : Option Addr} {n cap g capg : Nat} {F T H : Nat → Int} {wr : World} (h : RwI w w2 p ao n cap g capg F T H wr) (q : Nat) : RwI w w2 p ao n cap g capg F T H (wr.drewN q) :=
  ⟨h.o0, h.o1, h.has, below_drewN h.bel q⟩
theorem RwI.drew {w w2 : World} {p : Int} {ao : Option Addr} {n cap g capg : Nat} {F T H : Nat → Int} {wr : World} (h : RwI w w2 p ao n cap g capg F T H wr) : RwI w w2 p ao n cap g capg F T H wr.drew :=
  ⟨h.o0, h.o1, h.has, h.bel.drew⟩
theorem RwI.weights {w w2 : World} {p : Int} {ao : Option Addr} {n cap g capg : Nat} {F T H H' : Nat → Int} {wr : World} (h : RwI w w2 p ao n cap g capg F T H wr) (e : ∀ i, i < n → H i = H' i) : RwI w w2 p ao n cap g capg F T H' wr :=
  ⟨h.o0, h.o1, fun hp => (h.has hp).weights e, h.bel⟩
theorem RwI.store {w w2 : World} {p : Int} {ao : Option Addr} {n cap g capg : Nat} {F T H : Nat → Int} {wr : World} (h : RwI w w2 p ao n cap g capg F T H wr) (h1 : w.heap.size + 2 ≤ g) (h2 : g < w2.heap.size) (k : Nat) (c : Int) :
    RwI w w2 p ao n cap g capg F T (fun i => if i = k then c else H i) (wr.setCell ⟨g, k * 3 + 2, none⟩ (.int .i64 c)) :=
  ⟨by rw [← h.o0]; exact World.cell?_of_block (Below.heap_setCell _ _ _ _ (by simp; omega)), by rw [← h.o1]; exact World.cell?_of_block (Below.heap_setCell _ _ _ _ (by simp; omega)), fun hp => (h.has hp).weigh k c, h.bel.setCell (by simpa using h1) _⟩
set_option maxHeartbeats 4000000 in
theorem specReweigh_own (p : Int) (ao : Option Addr) (n cap : Nat) (F T G : Nat → Int) (ao2 : Option Addr) (m cap2 : Nat) (A B C : Nat → Int) (hn : n ≤ 1048576) (hm : m ≤ 1048576) (w : World) (hr : Row w ao n F T G) (hr2 : Row w ao2 m A B C)
    (p' : Int) (n' : Nat) (H' : Nat → Int) (ok : Bool) (hres : IsRes (resOf p n F T G m A B C) p n p' n' H' ok) :
    Calls Tryz.prog 59 #[.agg #[.int .i64 p, .slice ao n cap], .slice ao2 m cap2] w fun e w' => ∃ ao' cap', e = .returned (.tuple #[.agg #[.int .i64 p', .slice ao' n' cap'], .bool ok]) ∧ OwnS w' w.heap.size ao' n' (ar F T H') ∧ Below w.heap.size w w' := by
  rcases Bool.eq_false_or_eq_true (graphB p n F T G) with h | h
  rotate_left
  · rcases hres with ⟨hr0, _⟩ | ⟨_, rfl, rfl, rfl⟩
    · rw [resOf_bad h] at hr0; cases hr0
    go_enter Tryz.func59, Tryz.ntmps59
    go_wp2_with (first | (go_at_call 41; refine (specGraphOk_any p ao n cap F T G hn _ ((hr.alloc _).alloc _)).mono ?_; rintro e w1 ⟨rfl, hb1⟩; obtain ⟨⟨q0, q1⟩, ⟨q2, q3⟩, ⟨q4, q5⟩, q6⟩ := box22 (hb1.mono (by simp))))
    exact bodyPost_ret (v := .tuple #[.agg #[.int .i64 0, .slice none 0 0], .bool false]) (by simp [results, Tryz.results59, go_sem, q2, q3, q4, q5]) rfl ⟨none, 0, rfl, fun k hk => by omega, (((unbox2 hb1 (by simp; omega)).setCell (by simp) _).setCell (by simp) _)⟩
  go_enter Tryz.func59, Tryz.ntmps59
  go_wp2_with (first | (go_at_call 41; refine (specGraphOk_any p ao n cap F T G hn _ ((hr.alloc _).alloc _)).mono ?_; rintro e w1 ⟨rfl, hb1⟩; have hA := hb1.mono (B' := w.heap.size + 2) (by simp); obtain ⟨⟨q0, q1⟩, ⟨q2, q3⟩, ⟨q4, q5⟩, q6⟩ := box22 hA) | (go_at_call 109; refine (l1Copy_any p ao n cap F T G hn _ (((hr.alloc _).alloc _).below hb1 (Nat.le_refl _))).mono ?_; rintro e w2 ⟨g, capg, rfl, hg1, hg2, hhas, hb2⟩; have hA := below_next hA (by simp) hb2))
  have hg1' : w.heap.size + 2 ≤ g := by omega
  have hA2 : Below (w.heap.size + 2) _ (w2.alloc (.cells #[.int .i64 p, .slice (some ⟨g, 0, none⟩) n capg] 26)) := hA.alloc (by have := hA.size; simp at this; omega) _
  have hI : RwI w w2 p ao n cap g capg F T G (w2.alloc (.cells #[.int .i64 p, .slice (some ⟨g, 0, none⟩) n capg] 26)) :=
    ⟨by simp [go_sem], by simp [go_sem], fun hp => (hhas hp).below ((Below.refl w2.heap.size _).alloc (Nat.le_refl _) _) hg2, hA2⟩
  have HR : Hid (IsRes (rw' F T G A B C n m) p n p' n' H' ok) := by rw [resOf_good h] at hres; exact hres
  clear hres hb1 hb2 hA hA2 q0 q1 q2 q3 q4 q5 q6 hhas hg1
  go_loopw [7] (fun x wr => ∃ i : Nat, i ≤ m ∧ x = .int .i64 i ∧ ∃ H, Hid (rw' F T G A B C n i = some H) ∧ RwI w w2 p ao n cap g capg F T H wr) (fun x _ => m - (intOf x).toNat)
  case atStart => exact ⟨0, Nat.zero_le _, rfl, G, rfl, hI⟩
  case round =>
    obtain ⟨i, hi, rfl, H, hrw, hI⟩ := hrel
    obtain ⟨⟨q0, q1⟩, ⟨q2, q3⟩, ⟨q4, q5⟩, q6⟩ := box22 hI.bel
    have o0 := hI.o0
    have o1 := hI.o1
    by_cases hlt : i < m
    rotate_left
    · have e : i = m := by omega
      subst e
      go_wp2
      obtain ⟨hr0, rfl, rfl, rfl⟩ | ⟨hr0, _⟩ := HR.out
      rotate_left
      · rw [hrw.out] at hr0; cases hr0
      obtain rfl : H = H' := by rw [hrw.out] at hr0; simpa using hr0
      have hne : ∀ x : Addr, x.block = w.heap.size + 1 → g ≠ x.block := fun x e => by omega
      refine bodyPost_ret (v := .tuple #[.agg #[.int .i64 p', .slice (some ⟨g, 0, none⟩) n' capg], .bool true]) (by simp [results, Tryz.results59, go_sem, q2, q3, q4, q5]) rfl ⟨_, capg, rfl, fun k hk => ?_, ?_⟩
      · exact ⟨g, rfl, by omega, ((hI.has (by omega)).of_block (Below.heap_setCell _ _ _ _ (hne _ rfl))).of_block (Below.heap_setCell _ _ _ _ (hne _ rfl))⟩
      · exact ((unbox2 hI.bel (by omega)).setCell (by simp) _).setCell (by simp) _
    obtain ⟨b2, o2, hao2, a0, a1, a2⟩ := (hr2.below (unbox2 hI.bel (by omega)) (Nat.le_refl _)) i hlt
    subst hao2
    go_wp2
    go_loopw [8, 9] (fun fd x wr => ∃ k : Nat, k ≤ n ∧ x = .int .i64 k ∧ fd = .bool (hit F T (A i) (B i) k) ∧ RwI w w2 p ao n cap g capg F T (part F T H (A i) (B i) (C i) k) wr) (fun _ x _ => n - (intOf x).toNat)
    case atStart => exact ⟨0, Nat.zero_le _, rfl, rfl, hI.weights (fun i _ => (part_zero i).symm)⟩
    case round =>
      clear q0 q1 q2 q3 q4 q5 q6 o0 o1 a0 a1 a2 hI
      obtain ⟨k, hk, rfl, rfl, hI⟩ := hrel
      have o0 := hI.o0
      have o1 := hI.o1
      obtain ⟨⟨q0, q1⟩, ⟨q2, q3⟩, ⟨q4, q5⟩, q6⟩ := box22 hI.bel
      obtain ⟨b2', o2', hao2', a0, a1, a2⟩ := (hr2.below (unbox2 hI.bel (by omega)) (Nat.le_refl _)) i hlt
      simp only [Option.some.injEq, Addr.mk.injEq, and_true] at hao2'
      obtain ⟨rfl, rfl⟩ := hao2'
      by_cases hlk : k < n
      rotate_left
      · have e : k = n := by omega
        subst e
        have hfin := hI.weights (fun i' hi' => part_all hi')
        rcases Bool.eq_false_or_eq_true (hit F T (A i) (B i) k) with hh | hh
        · rcases Bool.eq_false_or_eq_true (inB (C i) 1 1000000) with hc | hc
          · go_wp2_with (first | (go_at_call 53; refine (l1In_any _ _ _ _).mono ?_; rintro e w1 ⟨rfl, rfl⟩))
            go_roundw
            case rel => exact ⟨i + 1, by omega, by go_num, _, rw'_yes hrw.out hh hc, hfin⟩
            case measure => simp [intOf]; omega
          · go_wp2_with (first | (go_at_call 53; refine (l1In_any _ _ _ _).mono ?_; rintro e w1 ⟨rfl, rfl⟩))
            obtain ⟨hr0, _⟩ | ⟨_, rfl, rfl, rfl⟩ := HR.out
            · rw [rw'_none (rw'_no hrw.out (Or.inr hc)) m (by omega)] at hr0; cases hr0
            exact bodyPost_ret (v := .tuple #[.agg #[.int .i64 0, .slice none 0 0], .bool false]) (by simp [results, Tryz.results59, go_sem, q2, q3, q4, q5]) rfl ⟨none, 0, rfl, fun k hk => by omega, ((unbox2 hfin.bel (by omega)).setCell (by simp) _).setCell (by simp) _⟩
        · go_wp2_with (first | (go_at_call 53; refine (l1In_any _ _ _ _).mono ?_; rintro e w1 ⟨rfl, rfl⟩))
          obtain ⟨hr0, _⟩ | ⟨_, rfl, rfl, rfl⟩ := HR.out
          · rw [rw'_none (rw'_no hrw.out (Or.inl hh)) m (by omega)] at hr0; cases hr0
          exact bodyPost_ret (v := .tuple #[.agg #[.int .i64 0, .slice none 0 0], .bool false]) (by simp [results, Tryz.results59, go_sem, q2, q3, q4, q5]) rfl ⟨none, 0, rfl, fun k hk => by omega, ((unbox2 hfin.bel (by omega)).setCell (by simp) _).setCell (by simp) _⟩
      have hH := hI.has (by omega)
      have d0 : wr.cell? ⟨g, k * 3, none⟩ = some (.int .i64 (F k)) := by rw [hH.cell (by omega), ar0]
      have d1 : wr.cell? ⟨g, k * 3 + 1, none⟩ = some (.int .i64 (T k)) := by rw [hH.cell (by omega), ar1]
      have d2 := hH.cell (j := k * 3 + 2) (by omega)
      have z2 := hH.frozen (k * 3 + 2)
      clear hH
      rcases Bool.eq_false_or_eq_true (F k == A i) with hF | hF
      · rcases Bool.eq_false_or_eq_true (T k == B i) with hT | hT
        · go_wp2
          go_quiet (fail)
          go_wp2
          go_region
          go_wp2
          have eF : F k = A i := by simpa using hF
          have eT : T k = B i := by simpa using hT
          go_roundw
          case rel => exact ⟨k + 1, by omega, by go_num, by simp [hit, hF, hT], (((hI.drewN _).drew).store hg1' hg2 k (C i)).weights (fun i' _ => part_hit eF eT i')⟩
          case measure => simp [intOf]; omega
        · have eT : ¬ T k = B i := by simpa using hT
          have ET : Hid (¬ T k = B i) := eT
          clear eT
          go_wp2
          go_quiet (fail)
          go_wp2
          go_roundw
          case rel => exact ⟨k + 1, by omega, by go_num, by simp [hit, hF, hT], (hI.drewN _).weights (fun i' _ => part_miss (fun h => ET.out h.2) i')⟩
          case measure => simp [intOf]; omega
      · have eF : ¬ F k = A i := by simpa using hF
        have EF : Hid (¬ F k = A i) := eF
        clear eF
        go_wp2
        go_quiet (fail)
        go_wp2
        go_roundw
        case rel => exact ⟨k + 1, by omega, by go_num, by simp [hit, hF], (hI.drewN _).weights (fun i' _ => part_miss (fun h => EF.out h.1) i')⟩
        case measure => simp [intOf]; omega

theorem specReweigh_any (p : Int) (ao : Option Addr) (n cap : Nat) (F T G : Nat → Int) (ao2 : Option Addr) (m cap2 : Nat) (A B C : Nat → Int) (hn : n ≤ 1048576) (hm : m ≤ 1048576) (w : World) (hr : Row w ao n F T G) (hr2 : Row w ao2 m A B C)
    (p' : Int) (n' : Nat) (H' : Nat → Int) (ok : Bool) (hres : IsRes (resOf p n F T G m A B C) p n p' n' H' ok) :
    Calls Tryz.prog 59 #[.agg #[.int .i64 p, .slice ao n cap], .slice ao2 m cap2] w fun e w' => ∃ ao' cap', e = .returned (.tuple #[.agg #[.int .i64 p', .slice ao' n' cap'], .bool ok]) ∧ Row w' ao' n' F T H' ∧ Below w.heap.size w w' :=
  (specReweigh_own p ao n cap F T G ao2 m cap2 A B C hn hm w hr hr2 p' n' H' ok hres).mono (fun e w' ⟨ao', cap', h1, h2, h3⟩ => ⟨ao', cap', h1, h2.row, h3⟩)

end Go.Proofs.YteibbknpcgcjjabGreat

/-
  'copy' of arcs from one list into a list of the call's own, as a law for the walk.
-/
set_option linter.unusedVariables false
set_option linter.unusedSimpArgs false
namespace Go.Proofs.YteibbknpcgcjjabGreat
open Go.RowKit Go.Maps

theorem length_cellsOf (f : Nat → Int) (m : Nat) : (cellsOf f m).length = m := by simp [cellsOf]
theorem run_copy_arcs (w : World) (ty : TypeId) (g n cap : Nat) (b o sCap : Nat) (F T G f0 : Nat → Int) (hr : Row w (some ⟨b, o, none⟩) n F T G) (hown : Own w g n f0) :
    (Builtin.copy_ #[24, 24] ty #[.slice (some ⟨g, 0, none⟩) n cap, .slice (some ⟨b, o, none⟩) n sCap]).run Tryz.prog w = .ok (goInt n) (w.setRow g (cellsOf (ar F T G) (n * 3)).toArray) := by
  obtain ⟨i0, hi0, _, hz1, _⟩ := info_parts Tryz.infoArc
  obtain ⟨cur, hb, hcs, hc⟩ := hown
  have hl := run_loadCells_list (P := Tryz.prog) w ⟨b, o, none⟩ (cellsOf (ar F T G) (n * 3)) (Row.news hr)
  have hst := run_storeCells_at Tryz.prog g 0 115 (cellsOf (ar F T G) (n * 3)) 0 cur w hb (by rw [length_cellsOf]; omega) (cellsOf_one _ _)
  have hd : cur.toList.drop (n * 3) = [] := List.drop_eq_nil_of_le (by simp; omega)
  rw [length_cellsOf] at hl hst
  simp [hd] at hst
  simp [Builtin.copy_, run_underlying Tryz.underlying24, Builtin.lenOf, Builtin.firstCells, sizeOf, typeInfo, hi0, hz1, hl, hst]

theorem run_copy_zero (w : World) (ty : TypeId) (g cap : Nat) (ao : Option Addr) (sCap : Nat) :
    (Builtin.copy_ #[24, 24] ty #[.slice (some ⟨g, 0, none⟩) 0 cap, .slice ao 0 sCap]).run Tryz.prog w = .ok (goInt 0) w := by
  obtain ⟨i0, hi0, _, hz1, _⟩ := info_parts Tryz.infoArc
  have hl : ∀ (x : Addr), (loadCells x 0).run Tryz.prog w = .ok #[] w := fun x => by simpa using run_loadCells_list (P := Tryz.prog) w x [] (by simp)
  cases ao <;> simp [Builtin.copy_, run_underlying Tryz.underlying24, Builtin.lenOf, Builtin.firstCells, sizeOf, typeInfo, hi0, hz1, storeCells, hl]

theorem wpList_copy_arcs {w : World} {ops : Array Oper} {rest : List Oper} {o : Oper} {a : Act} {Q : Exit → Act → World → Prop} (hgd : o.guard = none) (d s : Operand)
    (ho : o.op = .call { callee := .builtin .copy, args := #[d, s], argTypes := #[24, 24] }) (g n cap : Nat) (ao : Option Addr) (sCap : Nat) (F T G f0 : Nat → Int)
    (hd : a.eval d = .slice (some ⟨g, 0, none⟩) n cap) (hs : a.eval s = .slice ao n sCap) (hr : Row w ao n F T G) (hown : Own w g n f0)
    (h : ∀ w', Own w' g n (ar F T G) → w.grownBy w' (some g) → wpList Tryz.prog ops Q rest (a.put o.dst (goInt n)) w') : wpList Tryz.prog ops Q (o :: rest) a w := by
  refine wpList_plain hgd fun K hK => ?_
  by_cases hp : 0 < n
  · obtain ⟨b, o', e, _⟩ := hr 0 hp
    subst e
    have hrun := run_copy_arcs w o.type g n cap b o' sCap F T G f0 hr hown
    unfold Oper.wp
    simp [execOp, ho, resolve, invoke, builtin, hd, hs, hrun, Result.andThen]
    obtain ⟨cur, hb, hcs, hc⟩ := hown
    refine hK _ _ (h _ ⟨_, setRow_heap w g cur _ _ _ hb, by simp [length_cellsOf], fun j hj => ?_⟩ ⟨rfl, rfl, rfl, by simp [World.setRow], fun k _ hne => setRow_other w g k _ (fun e => hne (by rw [e]))⟩)
    rw [List.getElem?_toArray, cellsOf, List.getElem?_map, List.getElem?_range hj]
    rfl
  · have e : n = 0 := by omega
    subst e
    have hrun := run_copy_zero w o.type g cap ao sCap
    unfold Oper.wp
    simp [execOp, ho, resolve, invoke, builtin, hd, hs, hrun, Result.andThen]
    exact hK _ _ (h _ (World.rowIs.congr hown (fun j hj => by omega)) (World.grownBy.refl _ _))

end Go.Proofs.YteibbknpcgcjjabGreat

/-
  The program's Reweigh answers the weights that 'resOf' tells, in memory of its own.
-/
set_option linter.unusedVariables false
set_option linter.unusedSimpArgs false
namespace Go.Proofs.YteibbknpcgcjjabGreat
open Go.RowKit Go.Maps
attribute [local go_sem ↓] Go.wp_at_zero Go.wp_at_succ

theorem hit_of {F T : Nat → Int} {a b : Int} {k : Nat} (hF : F k = a) (hT : T k = b) : ∀ n, k < n → hit F T a b n = true
  | 0, h => by omega
  | n + 1, h => by
    by_cases e : k = n
    · subst e; simp [hit, hF, hT]
    · simp [hit, hit_of hF hT n (by omega)]
theorem hit_none {F T : Nat → Int} {a b : Int} : ∀ n, (∀ k, k < n → ¬ (F k = a ∧ T k = b)) → hit F T a b n = false
  | 0, _ => rfl
  | n + 1, h => by
    have := h n (by omega)
    simp [hit, hit_none n (fun k hk => h k (by omega))]
    exact fun e1 e2 => this ⟨e1, e2⟩
theorem put_at {p : Int} {F T G H : Nat → Int} {n k : Nat} {a b c : Int} (hg : arcsB p F T G n = true) (hk : k < n) (hF : F k = a) (hT : T k = b) : ∀ i, i < n → (if i = k then c else H i) = put F T H a b c i := fun i hi => by
  unfold put
  by_cases e : i = k
  · subst e; rw [if_pos rfl, if_pos ⟨hF, hT⟩]
  · rw [if_neg e, if_neg (fun h => e (unique hg hi hk (h.1.trans hF.symm) (h.2.trans hT.symm)))]

/-- What stands in memory while the program's Reweigh goes through the new arcs. -/
structure RwJ (w : World) (p : Int) (ao : Option Addr) (n cap bo g bm : Nat) (F T H : Nat → Int) (wr : World) : Prop where
  o0 : wr.cell? ⟨bo, 0, none⟩ = some (.int .i64 p)
  o1 : wr.cell? ⟨bo, 1, none⟩ = some (.slice (some ⟨g, 0, none⟩) n n)
  has : Has wr g n (ar F T H)
  map : wr.ownsMap Tryz.prog 113 (plainElem Tryz.prog 3) bm n (nums F T n)
  bel : Below (w.heap.size + 2) ((w.alloc (.cells #[.int .i64 p, .slice ao n cap] 26)).alloc (.cells #[.int .i64 0, .slice none 0 0] 26)) wr
theorem RwJ.next {w : World} {p : Int} {ao : Option Addr} {n cap bo g bm : Nat} {F T H : Nat → Int} {wr wr' : World} (h : RwJ w p ao n cap bo g bm F T H wr) (hb : Below wr.heap.size wr wr') : RwJ w p ao n cap bo g bm F T H wr' :=
  ⟨keep_cell hb (Nat.le_refl _) h.o0, keep_cell hb (Nat.le_refl _) h.o1, h.has.below hb h.has.lt, ownsMap_below h.map hb, below_next h.bel (by simp) hb⟩
theorem RwJ.weights {w : World} {p : Int} {ao : Option Addr} {n cap bo g bm : Nat} {F T H H' : Nat → Int} {wr : World} (h : RwJ w p ao n cap bo g bm F T H wr) (e : ∀ i, i < n → H i = H' i) : RwJ w p ao n cap bo g bm F T H' wr :=
  ⟨h.o0, h.o1, h.has.weights e, h.map, h.bel⟩
theorem RwJ.store {w : World} {p : Int} {ao : Option Addr} {n cap bo g bm : Nat} {F T H : Nat → Int} {wr : World} (h : RwJ w p ao n cap bo g bm F T H wr) (h1 : w.heap.size + 2 ≤ g) (h2 : bo ≠ g) (h3 : bm ≠ g) (k : Nat) (c : Int) :
    RwJ w p ao n cap bo g bm F T (fun i => if i = k then c else H i) (wr.setCell ⟨g, k * 3 + 2, none⟩ (.int .i64 c)) :=
  ⟨by rw [← h.o0]; exact World.cell?_of_block (Below.heap_setCell _ _ _ _ (by simpa using h2)), by rw [← h.o1]; exact World.cell?_of_block (Below.heap_setCell _ _ _ _ (by simpa using h2)), h.has.weigh k c,
   ownsMap_block h.map (Below.heap_setCell _ _ _ _ (by simpa using h3)), h.bel.setCell (by simpa using h1) _⟩

set_option maxHeartbeats 4000000 in
theorem implReweigh_any (p : Int) (ao : Option Addr) (n cap : Nat) (F T G : Nat → Int) (ao2 : Option Addr) (m cap2 : Nat) (A B C : Nat → Int) (hn : n ≤ 1048576) (hm : m ≤ 1048576) (hwf2 : WfTo A B m) (w : World) (hr : Row w ao n F T G) (hr2 : Row w ao2 m A B C)
    (p' : Int) (n' : Nat) (H' : Nat → Int) (ok : Bool) (hres : IsRes (resOf p n F T G m A B C) p n p' n' H' ok) :
    Calls Tryz.prog 57 #[.agg #[.int .i64 p, .slice ao n cap], .slice ao2 m cap2] w fun e w' => ∃ ao' cap', e = .returned (.tuple #[.agg #[.int .i64 p', .slice ao' n' cap'], .bool ok]) ∧ OwnS w' w.heap.size ao' n' (ar F T H') ∧ Below w.heap.size w w' := by
  rcases Bool.eq_false_or_eq_true (graphB p n F T G) with h | h
  rotate_left
  · rcases hres with ⟨hr0, _⟩ | ⟨_, rfl, rfl, rfl⟩
    · rw [resOf_bad h] at hr0; cases hr0
    go_enter Tryz.func57, Tryz.ntmps57
    go_wp2_with (first | (go_at_call 39; refine (implGraphOk_any p ao n cap F T G hn _ ((hr.alloc _).alloc _)).mono ?_; rintro e w1 ⟨rfl, hb1⟩; obtain ⟨⟨q0, q1⟩, ⟨q2, q3⟩, ⟨q4, q5⟩, q6⟩ := box22 (hb1.mono (by simp))))
    exact bodyPost_ret (v := .tuple #[.agg #[.int .i64 0, .slice none 0 0], .bool false]) (by simp [results, Tryz.results57, go_sem, q2, q3, q4, q5]) rfl ⟨none, 0, rfl, fun k hk => by omega, (((unbox2 hb1 (by simp; omega)).setCell (by simp) _).setCell (by simp) _)⟩
  have hmk := make_arcs n hn
  go_enter Tryz.func57, Tryz.ntmps57
  go_upto_region 3 with (first | (go_at_call 39; refine (implGraphOk_any p ao n cap F T G hn _ ((hr.alloc _).alloc _)).mono ?_; rintro e w1 ⟨rfl, hb1⟩; have hA := hb1.mono (B' := w.heap.size + 2) (by simp); obtain ⟨⟨q0, q1⟩, ⟨q2, q3⟩, ⟨q4, q5⟩, q6⟩ := box22 hA))
  go_cut [6] from 15 (fun v wc => ∃ bo g, v = .pointer (some ⟨bo, 0, none⟩) ∧ bo ≠ g ∧ w1.heap.size ≤ bo ∧ w1.heap.size ≤ g ∧ wc.cell? ⟨bo, 0, none⟩ = some (.int .i64 p) ∧ wc.cell? ⟨bo, 1, none⟩ = some (.slice (some ⟨g, 0, none⟩) n n) ∧ Own wc g n (upto (ar F T G) 0) ∧ Below w1.heap.size w1 wc)
  case first =>
    have q7 : w.heap.size < w1.heap.size := by omega
    have q8 : w.heap.size < w1.heap.size + 1 := by omega
    go_region_held3 (fun w' => w'.cell? ⟨w.heap.size, 0, none⟩ = some (.int .i64 p) ∧ w'.cell? ⟨w.heap.size, 1, none⟩ = some (.slice ao n cap))
      (first | (simp [go_sem, q0, q1, q7, q8]; done) | go_keep)
      (fail)
    all_goals go_wp2
    all_goals go_meet
    all_goals
      first
      | exact ⟨w1.heap.size + 1, w1.heap.size, rfl, by omega, by omega, Nat.le_refl _, by simp [go_sem], by simp [go_sem], World.rowIs.alloc (made_own w1 n _) _, Below.drew (((Below.refl _ _).alloc (Nat.le_refl _) _).alloc (by simp) _)⟩
      | exact ⟨w1.heap.size, w1.heap.size + 1, rfl, by omega, Nat.le_refl _, by omega, by simp [go_sem], by simp [go_sem], by have := made_own (w1.alloc (.cells #[.int .i64 p, .slice (some ⟨w1.heap.size + 1, 0, none⟩) n n] 26)) n (ar F T G); simp at this; exact this, Below.drew (((Below.refl _ _).alloc (Nat.le_refl _) _).alloc (by simp) _)⟩
  case rest =>
    obtain ⟨bo, g, rfl, hne, hbo, hg, o0, o1, hown, hbc⟩ := hcut
    have hAc := below_next hA (by simp) hbc
    obtain ⟨⟨r0, r1⟩, ⟨r2, r3⟩, ⟨r4, r5⟩, r6⟩ := box22 hAc
    have hrc := hr.below (unbox2 hAc (by omega)) (Nat.le_refl _)
    have hwf := wf_small (graphB_p h) (graphB_arcs h).2
    have HG : Hid (arcsB p F T G n = true) := (graphB_arcs h).2
    have HR : Hid (IsRes (rw' F T G A B C n m) p n p' n' H' ok) := by rw [resOf_good h] at hres; exact hres
    clear hres q0 q1 q2 q3 q4 q5 hmk
    go_wp2_with (first | (refine wpList_copy_arcs rfl (.tmp 24) (.tmp 26) rfl g n n ao cap F T G (upto (ar F T G) 0) (by rfl) (by rfl) hrc hown ?_; intro w3 hown3 hgr3; have hA3 := hAc.trans (grown_below hgr3 (B := w.heap.size + 2) (by omega) (by omega)); have o0' := keep_grown hgr3 (by simp; exact hne) o0; have o1' := keep_grown hgr3 (by simp; exact hne) o1; obtain ⟨⟨s0, s1⟩, _⟩ := box22 hA3) | (go_at_call 79; refine (arcNumbers_any p ao n cap F T G hn hwf _ (hr.below (unbox2 hA3 (by omega)) (Nat.le_refl _))).mono ?_; rintro e w4 ⟨rfl, hmap, hb4⟩))
    have hh3 := Has.of_own hown3
    have hgl := hh3.lt
    have hJ : RwJ w p ao n cap bo g (w3.heap.size + 1) F T G w4 := ⟨keep_cell hb4 (Nat.le_refl _) o0', keep_cell hb4 (Nat.le_refl _) o1', hh3.below hb4 hgl, hmap, below_next hA3 (by simp) hb4⟩
    have hg2 : w.heap.size + 2 ≤ g := by omega
    have hbm : w3.heap.size + 1 ≠ g := by omega
    clear hA hAc hA3 hb1 hbc hb4 hmap hown hown3 hh3 hgr3 o0 o1 o0' o1' s0 s1 r0 r1 r2 r3 r4 r5 r6 hrc
    go_loopw [32] (fun x wr => ∃ i : Nat, i ≤ m ∧ x = .int .i64 i ∧ ∃ H, Hid (rw' F T G A B C n i = some H) ∧ RwJ w p ao n cap bo g (w3.heap.size + 1) F T H wr) (fun x _ => m - (intOf x).toNat)
    case atStart => exact ⟨0, Nat.zero_le _, rfl, G, rfl, hJ⟩
    case round =>
      clear hJ
      obtain ⟨i, hi, rfl, H, hrw, hJ⟩ := hrel
      obtain ⟨⟨q0, q1⟩, ⟨q2, q3⟩, ⟨q4, q5⟩, q6'⟩ := box22 hJ.bel
      have o0 := hJ.o0
      have o1 := hJ.o1
      by_cases hlt : i < m
      rotate_left
      · have e : i = m := by omega
        subst e
        go_wp2
        obtain ⟨hr0, rfl, rfl, rfl⟩ | ⟨hr0, _⟩ := HR.out
        rotate_left
        · rw [hrw.out] at hr0; cases hr0
        obtain rfl : H = H' := by rw [hrw.out] at hr0; simpa using hr0
        have hne' : ∀ x : Addr, x.block = w.heap.size + 1 → g ≠ x.block := fun x e => by omega
        refine bodyPost_ret (v := .tuple #[.agg #[.int .i64 p', .slice (some ⟨g, 0, none⟩) n' n'], .bool true]) (by simp [results, Tryz.results57, go_sem, q2, q3, q4, q5]) rfl ⟨_, n', rfl, fun k hk => ⟨g, rfl, by omega, ?_⟩, ?_⟩
        · exact (hJ.has.of_block (Below.heap_setCell _ _ _ _ (hne' _ rfl))).of_block (Below.heap_setCell _ _ _ _ (hne' _ rfl))
        · exact ((unbox2 hJ.bel (by omega)).setCell (by simp) _).setCell (by simp) _
      obtain ⟨b2, o2, hao2, a0, a1, a2⟩ := (hr2.below (unbox2 hJ.bel (by omega)) (Nat.le_refl _)) i hlt
      subst hao2
      have hkey := key_ends (A i) (B i) (hwf2 i hlt).1 (hwf2 i hlt).2
      rcases nums_look F T (A i) (B i) (hwf2 i hlt).1 (hwf2 i hlt).2 n hwf with ⟨l1, l2⟩ | ⟨k, hk, l1, l2, l3, l4⟩
      · have L2 : Hid (hit F T (A i) (B i) n = false) := hit_none n l2
        clear l2
        go_wp2_with (first | (go_at_call 96; refine (endsOf_any _ _ _ _).mono ?_; rintro e w5 ⟨rfl, hb5⟩; have hJ5 := hJ.next (unbox hb5 (by simp)); have hm5 := hJ5.map; obtain ⟨⟨x0, x1⟩, ⟨x2, x3⟩, ⟨x4, x5⟩, x6⟩ := box22 hJ5.bel) | (at_lookup; refine wpList_lookup_own_ok_int _ rfl _ _ 96 rfl 113 3 .i64 Tryz.keyLaw Tryz.underlying96 Tryz.underlying3 (Tryz.mapZero _) _ n _ rfl hm5 _ _ rfl hkey ?_; intro cc hat hwc))
        obtain ⟨hr0, _⟩ | ⟨_, rfl, rfl, rfl⟩ := HR.out
        · rw [rw'_none (rw'_no hrw.out (Or.inl L2.out)) m (by omega)] at hr0; cases hr0
        exact bodyPost_ret (v := .tuple #[.agg #[.int .i64 0, .slice none 0 0], .bool false]) (by simp [results, Tryz.results57, go_sem, x2, x3, x4, x5]) rfl ⟨none, 0, rfl, fun k hk => by omega, ((unbox2 hJ5.bel (by omega)).setCell (by simp) _).setCell (by simp) _⟩
      · have L4 : Hid ((nums F T n).atKey (kl (A i) (B i)) (.lit (.int .i64 0)) = .lit (.int .i64 (k : Int))) := l4
        have L2 : Hid (hit F T (A i) (B i) n = true) := hit_of l1 l2 n hk
        have E1 : Hid (F k = A i) := l1
        have E2 : Hid (T k = B i) := l2
        clear l1 l2 l4
        rcases Bool.eq_false_or_eq_true (inB (C i) 1 1000000) with hc | hc
        · go_wp2_with (first | (go_at_call 96; refine (endsOf_any _ _ _ _).mono ?_; rintro e w5 ⟨rfl, hb5⟩; have hJ5 := hJ.next (unbox hb5 (by simp)); have hm5 := hJ5.map; have y2 := keep_cell hb5 (Nat.le_refl _) (b := wr.heap.size) (o := 2) (by simp [go_sem]; rfl); have y0 := hJ5.o0; have y1 := hJ5.o1; have d2 := hJ5.has.cell (j := k * 3 + 2) (by omega); have z2 := hJ5.has.frozen (k * 3 + 2)) | (at_lookup; refine wpList_lookup_own_ok_int _ rfl _ _ 96 rfl 113 3 .i64 Tryz.keyLaw Tryz.underlying96 Tryz.underlying3 (Tryz.mapZero _) _ n _ rfl hm5 _ _ rfl hkey ?_; intro cc hat hwc; obtain rfl : cc = (k : Int) := by (rw [L4.out] at hat; simpa using hat.symm)) | (go_at_call 107; refine (weightOk_any _ _).mono ?_; rintro e w6 ⟨rfl, rfl⟩))
          have hS := (hJ5.store hg2 hne hbm k (C i)).weights (put_at HG.out hk E1.out E2.out)
          go_roundw
          case rel => exact ⟨i + 1, by omega, by go_num, _, rw'_yes hrw.out L2.out hc, hS⟩
          case measure => simp [intOf]; omega
        · go_wp2_with (first | (go_at_call 96; refine (endsOf_any _ _ _ _).mono ?_; rintro e w5 ⟨rfl, hb5⟩; have hJ5 := hJ.next (unbox hb5 (by simp)); have hm5 := hJ5.map; have y2 := keep_cell hb5 (Nat.le_refl _) (b := wr.heap.size) (o := 2) (by simp [go_sem]; rfl); obtain ⟨⟨x0, x1⟩, ⟨x2, x3⟩, ⟨x4, x5⟩, x6⟩ := box22 hJ5.bel) | (at_lookup; refine wpList_lookup_own_ok_int _ rfl _ _ 96 rfl 113 3 .i64 Tryz.keyLaw Tryz.underlying96 Tryz.underlying3 (Tryz.mapZero _) _ n _ rfl hm5 _ _ rfl hkey ?_; intro cc hat hwc; obtain rfl : cc = (k : Int) := by (rw [L4.out] at hat; simpa using hat.symm)) | (go_at_call 107; refine (weightOk_any _ _).mono ?_; rintro e w6 ⟨rfl, rfl⟩))
          obtain ⟨hr0, _⟩ | ⟨_, rfl, rfl, rfl⟩ := HR.out
          · rw [rw'_none (rw'_no hrw.out (Or.inr hc)) m (by omega)] at hr0; cases hr0
          exact bodyPost_ret (v := .tuple #[.agg #[.int .i64 0, .slice none 0 0], .bool false]) (by simp [results, Tryz.results57, go_sem, x2, x3, x4, x5]) rfl ⟨none, 0, rfl, fun k hk => by omega, ((unbox2 hJ5.bel (by omega)).setCell (by simp) _).setCell (by simp) _⟩

end Go.Proofs.YteibbknpcgcjjabGreat
