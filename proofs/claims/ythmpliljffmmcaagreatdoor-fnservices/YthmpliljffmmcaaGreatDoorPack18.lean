/-
  Helpers: CmdS, RwSpec, Copy3, RwImpl, EdOkA, EdOkImpl, ChdP.
-/
import Derived.Test.YthmpliljffmmcaaGreatDoorPack1
import Derived.Test.YthmpliljffmmcaaGreatDoorPack14
import Derived.Test.YthmpliljffmmcaaGreatDoorPack5
import Derived.Deep.Cut
import Derived.Test.YthmpliljffmmcaaGreatDoorPack2
import Derived.Test.YthmpliljffmmcaaGreatDoorPack7
set_option linter.unusedVariables false
set_option linter.unusedSimpArgs false
namespace Go.Proofs.YthmpliljffmmcaaGreatDoor
section
open Go.ChangeShapes Go.WideShapes Go.ChangeAt Go.RowKit Go.Deep Go.Joins
attribute [local go_sem ↓] Go.wp_at_zero Go.wp_at_succ
set_option maxRecDepth 100000 in
set_option maxHeartbeats 4000000 in
theorem specCommandOk_any (K : Int) (ao : Option Addr) (n cap : Nat) (F T G : Nat → Int) (a b : Int) (hn : n ≤ 1048576) (w : World) (hr : Row w ao n F T G) :
    Calls Tryz.prog 12 #[.agg #[.int .i64 K, .slice ao n cap, .int .i64 a, .int .i64 b]] w fun e w' => e = .returned (.bool (cmdB K n F T G a b)) ∧ Below w.heap.size w w' := by
  by_cases k1 : K = 1
  · subst k1
    by_cases hn0 : n = 0
    · subst hn0
      by_cases ha : a = 0
      · subst ha
        by_cases hb : b = 0
        · subst hb
          rw [show cmdB 1 0 F T G 0 0 = true from by simp [cmdB]]
          go_enter Tryz.func12, Tryz.ntmps12
          go_wp2
          go_ret
          exact ⟨by first | rfl | exact ret_bool (by simp [*]), (Below.refl _ _).alloc nl _⟩
        · skip
          rw [show cmdB 1 0 F T G 0 b = false from by simp [cmdB, hb]]
          go_enter Tryz.func12, Tryz.ntmps12
          go_wp2
          go_ret
          exact ⟨by first | rfl | exact ret_bool (by simp [*]), (Below.refl _ _).alloc nl _⟩
      · skip
        rw [show cmdB 1 0 F T G a b = false from by simp [cmdB, ha]]
        go_enter Tryz.func12, Tryz.ntmps12
        go_wp2
        go_ret
        exact ⟨by first | rfl | exact ret_bool (by simp [*]), (Below.refl _ _).alloc nl _⟩
    · have hn0' : ¬ (n : Int) = 0 := by omega
      rw [show cmdB 1 n F T G a b = false from by simp [cmdB, hn0]]
      go_enter Tryz.func12, Tryz.ntmps12
      go_wp2
      go_ret
      exact ⟨by first | rfl | exact ret_bool (by simp [*]), (Below.refl _ _).alloc nl _⟩
  by_cases k3 : K = 3
  · subst k3
    by_cases hn0 : n = 0
    · subst hn0
      rcases Bool.eq_false_or_eq_true (inB a 0 23) with ha | ha
      · have HQa : Hid (∀ W, Calls Tryz.prog 33 #[.int .i64 a, .int .i64 0, .int .i64 23] W fun e w' => e = .returned (.bool true) ∧ w' = W) := fun W => (l1In_any a 0 23 W).mono (fun e w' h' => ⟨by rw [h'.1, ha], h'.2⟩)
        rcases Bool.eq_false_or_eq_true (inB b 0 23) with hb | hb
        · have HQb : Hid (∀ W, Calls Tryz.prog 33 #[.int .i64 b, .int .i64 0, .int .i64 23] W fun e w' => e = .returned (.bool true) ∧ w' = W) := fun W => (l1In_any b 0 23 W).mono (fun e w' h' => ⟨by rw [h'.1, hb], h'.2⟩)
          rw [show cmdB 3 0 F T G a b = true from by simp [cmdB, ha, hb]]
          go_enter Tryz.func12, Tryz.ntmps12
          go_wp2_with (first | (go_at_call 33; with_reducible refine (HQa.out _).mono ?_; rintro e w1 ⟨rfl, rfl⟩) | (go_at_call 33; with_reducible refine (HQb.out _).mono ?_; rintro e w2 ⟨rfl, rfl⟩))
          go_ret
          exact ⟨by first | rfl | exact ret_bool (by simp [*]), (Below.refl _ _).alloc nl _⟩
        · have HQb : Hid (∀ W, Calls Tryz.prog 33 #[.int .i64 b, .int .i64 0, .int .i64 23] W fun e w' => e = .returned (.bool false) ∧ w' = W) := fun W => (l1In_any b 0 23 W).mono (fun e w' h' => ⟨by rw [h'.1, hb], h'.2⟩)
          rw [show cmdB 3 0 F T G a b = false from by simp [cmdB, ha, hb]]
          go_enter Tryz.func12, Tryz.ntmps12
          go_wp2_with (first | (go_at_call 33; with_reducible refine (HQa.out _).mono ?_; rintro e w1 ⟨rfl, rfl⟩) | (go_at_call 33; with_reducible refine (HQb.out _).mono ?_; rintro e w2 ⟨rfl, rfl⟩))
          go_ret
          exact ⟨by first | rfl | exact ret_bool (by simp [*]), (Below.refl _ _).alloc nl _⟩
      · have HQa : Hid (∀ W, Calls Tryz.prog 33 #[.int .i64 a, .int .i64 0, .int .i64 23] W fun e w' => e = .returned (.bool false) ∧ w' = W) := fun W => (l1In_any a 0 23 W).mono (fun e w' h' => ⟨by rw [h'.1, ha], h'.2⟩)
        rw [show cmdB 3 0 F T G a b = false from by simp [cmdB, ha]]
        go_enter Tryz.func12, Tryz.ntmps12
        go_wp2_with (first | (go_at_call 33; with_reducible refine (HQa.out _).mono ?_; rintro e w1 ⟨rfl, rfl⟩))
        go_ret
        exact ⟨by first | rfl | exact ret_bool (by simp [*]), (Below.refl _ _).alloc nl _⟩
    · have hn0' : ¬ (n : Int) = 0 := by omega
      rw [show cmdB 3 n F T G a b = false from by simp [cmdB, hn0]]
      go_enter Tryz.func12, Tryz.ntmps12
      go_wp2
      go_ret
      exact ⟨by first | rfl | exact ret_bool (by simp [*]), (Below.refl _ _).alloc nl _⟩
  by_cases k2 : K = 2
  rotate_left
  · skip
    rw [show cmdB K n F T G a b = false from by simp [cmdB, k1, k2, k3]]
    go_enter Tryz.func12, Tryz.ntmps12
    go_wp2
    go_ret
    exact ⟨by first | rfl | exact ret_bool (by simp [*]), (Below.refl _ _).alloc nl _⟩
  subst k2
  by_cases h1 : n < 1
  · have h1' : (n : Int) < 1 := by omega
    rw [show cmdB 2 n F T G a b = false from by simp [cmdB, batchB]; omega]
    go_enter Tryz.func12, Tryz.ntmps12
    go_wp2
    go_ret
    exact ⟨by first | rfl | exact ret_bool (by simp [*]), (Below.refl _ _).alloc nl _⟩
  have h1' : ¬ (n : Int) < 1 := by omega
  by_cases h2 : 10 < n
  · have h2' : 10 < (n : Int) := by omega
    rw [show cmdB 2 n F T G a b = false from by simp [cmdB, batchB]; omega]
    go_enter Tryz.func12, Tryz.ntmps12
    go_wp2
    go_ret
    exact ⟨by first | rfl | exact ret_bool (by simp [*]), (Below.refl _ _).alloc nl _⟩
  have h2' : ¬ 10 < (n : Int) := by omega
  by_cases ha : a = 0
  rotate_left
  · skip
    rw [show cmdB 2 n F T G a b = false from by simp [cmdB, ha]]
    go_enter Tryz.func12, Tryz.ntmps12
    go_wp2
    go_ret
    exact ⟨by first | rfl | exact ret_bool (by simp [*]), (Below.refl _ _).alloc nl _⟩
  by_cases hb : b = 0
  rotate_left
  · skip
    rw [show cmdB 2 n F T G a b = false from by simp [cmdB, hb]]
    go_enter Tryz.func12, Tryz.ntmps12
    go_wp2
    go_ret
    exact ⟨by first | rfl | exact ret_bool (by simp [*]), (Below.refl _ _).alloc nl _⟩
  subst ha hb
  rw [show cmdB 2 n F T G 0 0 = batB F T G n from by
    have e1 : decide (1 ≤ n) = true := by simp; omega
    have e2 : decide (n ≤ 10) = true := by simp; omega
    have e3 : batchB F T G n = batB F T G n := by rw [batchB, e1, e2]; rfl
    simp [cmdB, e3]]
  have hal := (Below.refl w.heap.size w).alloc nl (.cells #[.int .i64 2, .slice ao n cap, .int .i64 0, .int .i64 0] 35)
  have x1 : (w.alloc (.cells #[.int .i64 2, .slice ao n cap, .int .i64 0, .int .i64 0] 35)).cell? ⟨w.heap.size, 1, none⟩ = some (.slice ao n cap) := by simp [go_sem]
  have hrw := hr.below hal nl
  go_enter Tryz.func12, Tryz.ntmps12
  go_wp2
  generalize (w.alloc (.cells #[.int .i64 2, .slice ao n cap, .int .i64 0, .int .i64 0] 35)) = W at hal x1 hrw ⊢
  go_loopw [3] (fun x wr => ∃ i : Nat, i ≤ n ∧ x = .int .i64 i ∧ batB F T G i = true ∧ Below W.heap.size W wr) (fun x _ => n - (intOf x).toNat)
  case atStart => exact ⟨0, Nat.zero_le _, rfl, rfl, Below.refl _ _⟩
  case round =>
    obtain ⟨i, hi, rfl, hall, hbel⟩ := hrel
    have hBw := below_next hal nl hbel
    replace x1 := keep_cell hbel nl x1
    by_cases hlt : i < n
    rotate_left
    · obtain rfl : i = n := by omega
      go_wp2
      go_ret
      exact ⟨by rw [hall]; rfl, hBw⟩
    obtain ⟨bb, oo, eo, c0, c1, c2⟩ := (hrw.below hbel nl) i hlt
    subst eo
    have hlt' : (i : Int) < (n : Int) := by omega
    have hi0 : (0 : Int) ≤ (i : Int) := by omega
    cases ha : arcB (F i) (T i) (G i) 24
    · have hno := batB_no hlt ha
      go_wp2_with fail
      refine (l1Arc_any (F i) (T i) (G i) 24 (by omega) (by omega) _).mono ?_
      rintro e w1 ⟨rfl, hb1⟩
      rw [ha]
      go_wp2
      go_ret
      exact ⟨by rw [hno]; rfl, below_next hBw nl hb1⟩
    · go_wp2_with fail
      refine (l1Arc_any (F i) (T i) (G i) 24 (by omega) (by omega) _).mono ?_
      rintro e w1 ⟨rfl, hb1⟩
      rw [ha]
      go_wp2
      go_roundw
      case rel => exact ⟨i + 1, by omega, by go_num, by simp [batB, hall, ha], below_next hbel nl hb1⟩
      case measure => simp [intOf]; omega
end
section
open Go.RowKit Go.Maps
attribute [local go_sem ↓] Go.wp_at_zero Go.wp_at_succ
theorem resOf_bad {p : Int} {n : Nat} {F T G : Nat → Int} {m : Nat} {A B C : Nat → Int} (h : graphB p n F T G = false) : resOf p n F T G m A B C = none := by simp [resOf, h]
theorem resOf_good {p : Int} {n : Nat} {F T G : Nat → Int} {m : Nat} {A B C : Nat → Int} (h : graphB p n F T G = true) : resOf p n F T G m A B C = rw' F T G A B C n m := by simp [resOf, h]
structure RwI (w w2 : World) (p : Int) (ao : Option Addr) (n cap g capg : Nat) (F T H : Nat → Int) (wr : World) : Prop where
  o0 : wr.cell? ⟨w2.heap.size, 0, none⟩ = some (.int .i64 p)
  o1 : wr.cell? ⟨w2.heap.size, 1, none⟩ = some (.slice (some ⟨g, 0, none⟩) n capg)
  has : 0 < n → Has wr g n (ar F T H)
  bel : Below (w.heap.size + 2) ((w.alloc (.cells #[.int .i64 p, .slice ao n cap] 26)).alloc (.cells #[.int .i64 0, .slice none 0 0] 26)) wr
theorem RwI.drewN {w w2 : World} {p : Int} {ao : Option Addr} {n cap g capg : Nat} {F T H : Nat → Int} {wr : World} (h : RwI w w2 p ao n cap g capg F T H wr) (q : Nat) : RwI w w2 p ao n cap g capg F T H (wr.drewN q) :=
  ⟨h.o0, h.o1, h.has, below_drewN h.bel q⟩
theorem RwI.drew {w w2 : World} {p : Int} {ao : Option Addr} {n cap g capg : Nat} {F T H : Nat → Int} {wr : World} (h : RwI w w2 p ao n cap g capg F T H wr) : RwI w w2 p ao n cap g capg F T H wr.drew :=
  ⟨h.o0, h.o1, h.has, h.bel.drew⟩
theorem RwI.weights {w w2 : World} {p : Int} {ao : Option Addr} {n cap g capg : Nat} {F T H H' : Nat → Int} {wr : World} (h : RwI w w2 p ao n cap g capg F T H wr) (e : ∀ i, i < n → H i = H' i) : RwI w w2 p ao n cap g capg F T H' wr :=
  ⟨h.o0, h.o1, fun hp => (h.has hp).weights e, h.bel⟩
theorem RwI.store {w w2 : World} {p : Int} {ao : Option Addr} {n cap g capg : Nat} {F T H : Nat → Int} {wr : World} (h : RwI w w2 p ao n cap g capg F T H wr) (h1 : w.heap.size + 2 ≤ g) (h2 : g < w2.heap.size) (k : Nat) (c : Int) :
    RwI w w2 p ao n cap g capg F T (fun i => if i = k then c else H i) (wr.setCell ⟨g, k * 3 + 2, none⟩ (.int .i64 c)) :=
  ⟨by rw [← h.o0]; exact World.cell?_of_block (Below.heap_setCell _ _ _ _ (by simp; omega)), by rw [← h.o1]; exact World.cell?_of_block (Below.heap_setCell _ _ _ _ (by simp; omega)), fun hp => (h.has hp).weigh k c, h.bel.setCell (by simpa using h1) _⟩
set_option maxHeartbeats 4000000 in
theorem specReweigh_own (p : Int) (ao : Option Addr) (n cap : Nat) (F T G : Nat → Int) (ao2 : Option Addr) (m cap2 : Nat) (A B C : Nat → Int) (hn : n ≤ 1048576) (hm : m ≤ 1048576) (w : World) (hr : Row w ao n F T G) (hr2 : Row w ao2 m A B C)
    (p' : Int) (n' : Nat) (H' : Nat → Int) (ok : Bool) (hres : IsRes (resOf p n F T G m A B C) p n p' n' H' ok) :
    Calls Tryz.prog 29 #[.agg #[.int .i64 p, .slice ao n cap], .slice ao2 m cap2] w fun e w' => ∃ ao' cap', e = .returned (.tuple #[.agg #[.int .i64 p', .slice ao' n' cap'], .bool ok]) ∧ OwnS w' w.heap.size ao' n' (ar F T H') ∧ Below w.heap.size w w' := by
  rcases Bool.eq_false_or_eq_true (graphB p n F T G) with h | h
  rotate_left
  · rcases hres with ⟨hr0, _⟩ | ⟨_, rfl, rfl, rfl⟩
    · rw [resOf_bad h] at hr0; cases hr0
    go_enter Tryz.func29, Tryz.ntmps29
    go_wp2_with (first | (go_at_call 44; refine (specGraphOk_any p ao n cap F T G hn _ ((hr.alloc _).alloc _)).mono ?_; rintro e w1 ⟨rfl, hb1⟩; obtain ⟨⟨q0, q1⟩, ⟨q2, q3⟩, ⟨q4, q5⟩, q6⟩ := box22 (hb1.mono (by simp))))
    exact bodyPost_ret (v := .tuple #[.agg #[.int .i64 0, .slice none 0 0], .bool false]) (by simp [results, Tryz.results29, go_sem, q2, q3, q4, q5]) rfl ⟨none, 0, rfl, fun k hk => by omega, (((unbox2 hb1 (by simp; omega)).setCell (by simp) _).setCell (by simp) _)⟩
  go_enter Tryz.func29, Tryz.ntmps29
  go_wp2_with (first | (go_at_call 44; refine (specGraphOk_any p ao n cap F T G hn _ ((hr.alloc _).alloc _)).mono ?_; rintro e w1 ⟨rfl, hb1⟩; have hA := hb1.mono (B' := w.heap.size + 2) (by simp); obtain ⟨⟨q0, q1⟩, ⟨q2, q3⟩, ⟨q4, q5⟩, q6⟩ := box22 hA) | (go_at_call 45; refine (l1Copy_any p ao n cap F T G hn _ (((hr.alloc _).alloc _).below hb1 nl)).mono ?_; rintro e w2 ⟨g, capg, rfl, hg1, hg2, hhas, hb2⟩; have hA := below_next hA (by simp) hb2))
  have hg1' : w.heap.size + 2 ≤ g := by omega
  have hA2 : Below (w.heap.size + 2) _ (w2.alloc (.cells #[.int .i64 p, .slice (some ⟨g, 0, none⟩) n capg] 26)) := hA.alloc (by have := hA.size; simp at this; omega) _
  have hI : RwI w w2 p ao n cap g capg F T G (w2.alloc (.cells #[.int .i64 p, .slice (some ⟨g, 0, none⟩) n capg] 26)) :=
    ⟨by simp [go_sem], by simp [go_sem], fun hp => (hhas hp).below ((Below.refl w2.heap.size _).alloc nl _) hg2, hA2⟩
  have HR : Hid (IsRes (rw' F T G A B C n m) p n p' n' H' ok) := by rw [resOf_good h] at hres; exact hres
  clear hres hb1 hb2 hA hA2 q0 q1 q2 q3 q4 q5 q6 hhas hg1
  go_loopw [7] (fun x wr => ∃ i : Nat, i ≤ m ∧ x = .int .i64 i ∧ ∃ H, Hid (rw' F T G A B C n i = some H) ∧ RwI w w2 p ao n cap g capg F T H wr) (fun x _ => m - (intOf x).toNat)
  case atStart => exact ⟨0, Nat.zero_le _, rfl, G, rfl, hI⟩
  case round =>
    obtain ⟨i, hi, rfl, H, hrw, hI⟩ := hrel
    obtain ⟨⟨q0, q1⟩, ⟨q2, q3⟩, ⟨q4, q5⟩, q6⟩ := box22 hI.bel
    have o0 := hI.o0
    have o1 := hI.o1
    by_cases hlt : i < m
    rotate_left
    · have e : i = m := by omega
      subst e
      go_wp2
      obtain ⟨hr0, rfl, rfl, rfl⟩ | ⟨hr0, _⟩ := HR.out
      rotate_left
      · rw [hrw.out] at hr0; cases hr0
      obtain rfl : H = H' := by rw [hrw.out] at hr0; simpa using hr0
      have hne : ∀ x : Addr, x.block = w.heap.size + 1 → g ≠ x.block := fun x e => by omega
      refine bodyPost_ret (v := .tuple #[.agg #[.int .i64 p', .slice (some ⟨g, 0, none⟩) n' capg], .bool true]) (by simp [results, Tryz.results29, go_sem, q2, q3, q4, q5]) rfl ⟨_, capg, rfl, fun k hk => ?_, ?_⟩
      · exact ⟨g, rfl, by omega, ((hI.has (by omega)).of_block (Below.heap_setCell _ _ _ _ (hne _ rfl))).of_block (Below.heap_setCell _ _ _ _ (hne _ rfl))⟩
      · exact ((unbox2 hI.bel (by omega)).setCell (by simp) _).setCell (by simp) _
    obtain ⟨b2, o2, hao2, a0, a1, a2⟩ := (hr2.below (unbox2 hI.bel (by omega)) nl) i hlt
    subst hao2
    go_wp2
    go_loopw [8, 9] (fun fd x wr => ∃ k : Nat, k ≤ n ∧ x = .int .i64 k ∧ fd = .bool (hit F T (A i) (B i) k) ∧ RwI w w2 p ao n cap g capg F T (part F T H (A i) (B i) (C i) k) wr) (fun _ x _ => n - (intOf x).toNat)
    case atStart => exact ⟨0, Nat.zero_le _, rfl, rfl, hI.weights (fun i _ => (part_zero i).symm)⟩
    case round =>
      clear q0 q1 q2 q3 q4 q5 q6 o0 o1 a0 a1 a2 hI
      obtain ⟨k, hk, rfl, rfl, hI⟩ := hrel
      have o0 := hI.o0
      have o1 := hI.o1
      obtain ⟨⟨q0, q1⟩, ⟨q2, q3⟩, ⟨q4, q5⟩, q6⟩ := box22 hI.bel
      obtain ⟨b2', o2', hao2', a0, a1, a2⟩ := (hr2.below (unbox2 hI.bel (by omega)) nl) i hlt
      simp only [Option.some.injEq, Addr.mk.injEq, and_true] at hao2'
      obtain ⟨rfl, rfl⟩ := hao2'
      by_cases hlk : k < n
      rotate_left
      · have e : k = n := by omega
        subst e
        have hfin := hI.weights (fun i' hi' => part_all hi')
        rcases Bool.eq_false_or_eq_true (hit F T (A i) (B i) k) with hh | hh
        · rcases Bool.eq_false_or_eq_true (inB (C i) 1 1000000) with hc | hc
          · go_wp2_with (first | (go_at_call 33; refine (l1In_any _ _ _ _).mono ?_; rintro e w1 ⟨rfl, rfl⟩))
            go_roundw
            case rel => exact ⟨i + 1, by omega, by go_num, _, rw'_yes hrw.out hh hc, hfin⟩
            case measure => simp [intOf]; omega
          · go_wp2_with (first | (go_at_call 33; refine (l1In_any _ _ _ _).mono ?_; rintro e w1 ⟨rfl, rfl⟩))
            obtain ⟨hr0, _⟩ | ⟨_, rfl, rfl, rfl⟩ := HR.out
            · rw [rw'_none (rw'_no hrw.out (Or.inr hc)) m (by omega)] at hr0; cases hr0
            exact bodyPost_ret (v := .tuple #[.agg #[.int .i64 0, .slice none 0 0], .bool false]) (by simp [results, Tryz.results29, go_sem, q2, q3, q4, q5]) rfl ⟨none, 0, rfl, fun k hk => by omega, ((unbox2 hfin.bel (by omega)).setCell (by simp) _).setCell (by simp) _⟩
        · go_wp2_with (first | (go_at_call 33; refine (l1In_any _ _ _ _).mono ?_; rintro e w1 ⟨rfl, rfl⟩))
          obtain ⟨hr0, _⟩ | ⟨_, rfl, rfl, rfl⟩ := HR.out
          · rw [rw'_none (rw'_no hrw.out (Or.inl hh)) m (by omega)] at hr0; cases hr0
          exact bodyPost_ret (v := .tuple #[.agg #[.int .i64 0, .slice none 0 0], .bool false]) (by simp [results, Tryz.results29, go_sem, q2, q3, q4, q5]) rfl ⟨none, 0, rfl, fun k hk => by omega, ((unbox2 hfin.bel (by omega)).setCell (by simp) _).setCell (by simp) _⟩
      have hH := hI.has (by omega)
      have d0 : wr.cell? ⟨g, k * 3, none⟩ = some (.int .i64 (F k)) := by rw [hH.cell (by omega), ar0]
      have d1 : wr.cell? ⟨g, k * 3 + 1, none⟩ = some (.int .i64 (T k)) := by rw [hH.cell (by omega), ar1]
      have d2 := hH.cell (j := k * 3 + 2) (by omega)
      have z2 := hH.frozen (k * 3 + 2)
      clear hH
      rcases Bool.eq_false_or_eq_true (F k == A i) with hF | hF
      · rcases Bool.eq_false_or_eq_true (T k == B i) with hT | hT
        · go_wp2
          go_quiet (fail)
          go_wp2
          go_region
          go_wp2
          have eF : F k = A i := by simpa using hF
          have eT : T k = B i := by simpa using hT
          go_roundw
          case rel => exact ⟨k + 1, by omega, by go_num, by simp [hit, hF, hT], (((hI.drewN _).drew).store hg1' hg2 k (C i)).weights (fun i' _ => part_hit eF eT i')⟩
          case measure => simp [intOf]; omega
        · have eT : ¬ T k = B i := by simpa using hT
          have ET : Hid (¬ T k = B i) := eT
          clear eT
          go_wp2
          go_quiet (fail)
          go_wp2
          go_roundw
          case rel => exact ⟨k + 1, by omega, by go_num, by simp [hit, hF, hT], (hI.drewN _).weights (fun i' _ => part_miss (fun h => ET.out h.2) i')⟩
          case measure => simp [intOf]; omega
      · have eF : ¬ F k = A i := by simpa using hF
        have EF : Hid (¬ F k = A i) := eF
        clear eF
        go_wp2
        go_quiet (fail)
        go_wp2
        go_roundw
        case rel => exact ⟨k + 1, by omega, by go_num, by simp [hit, hF], (hI.drewN _).weights (fun i' _ => part_miss (fun h => EF.out h.1) i')⟩
        case measure => simp [intOf]; omega
end
section
open Go.RowKit Go.Maps
theorem length_cellsOf (f : Nat → Int) (m : Nat) : (cellsOf f m).length = m := by simp [cellsOf]
theorem run_copy_arcs (w : World) (ty : TypeId) (g n cap : Nat) (b o sCap : Nat) (F T G f0 : Nat → Int) (hr : Row w (some ⟨b, o, none⟩) n F T G) (hown : Own w g n f0) :
    (Builtin.copy_ #[24, 24] ty #[.slice (some ⟨g, 0, none⟩) n cap, .slice (some ⟨b, o, none⟩) n sCap]).run Tryz.prog w = .ok (goInt n) (w.setRow g (cellsOf (ar F T G) (n * 3)).toArray) := by
  obtain ⟨i0, hi0, _, hz1, _⟩ := info_parts Tryz.infoArc
  obtain ⟨cur, hb, hcs, hc⟩ := hown
  have hl := run_loadCells_list (P := Tryz.prog) w ⟨b, o, none⟩ (cellsOf (ar F T G) (n * 3)) (Row.news hr)
  have hst := run_storeCells_at Tryz.prog g 0 67 (cellsOf (ar F T G) (n * 3)) 0 cur w hb (by rw [length_cellsOf]; omega) (cellsOf_one _ _)
  have hd : cur.toList.drop (n * 3) = [] := List.drop_eq_nil_of_le (by simp; omega)
  rw [length_cellsOf] at hl hst
  simp [hd] at hst
  simp [Builtin.copy_, run_underlying Tryz.underlying24, Builtin.lenOf, Builtin.firstCells, sizeOf, typeInfo, hi0, hz1, hl, hst]
theorem run_copy_zero (w : World) (ty : TypeId) (g cap : Nat) (ao : Option Addr) (sCap : Nat) :
    (Builtin.copy_ #[24, 24] ty #[.slice (some ⟨g, 0, none⟩) 0 cap, .slice ao 0 sCap]).run Tryz.prog w = .ok (goInt 0) w := by
  obtain ⟨i0, hi0, _, hz1, _⟩ := info_parts Tryz.infoArc
  have hl : ∀ (x : Addr), (loadCells x 0).run Tryz.prog w = .ok #[] w := fun x => by simpa using run_loadCells_list (P := Tryz.prog) w x [] (by simp)
  cases ao <;> simp [Builtin.copy_, run_underlying Tryz.underlying24, Builtin.lenOf, Builtin.firstCells, sizeOf, typeInfo, hi0, hz1, storeCells, hl]
theorem wpList_copy_arcs {w : World} {ops : Array Oper} {rest : List Oper} {o : Oper} {a : Act} {Q : Exit → Act → World → Prop} (hgd : o.guard = none) (d s : Operand)
    (ho : o.op = .call { callee := .builtin .copy, args := #[d, s], argTypes := #[24, 24] }) (g n cap : Nat) (ao : Option Addr) (sCap : Nat) (F T G f0 : Nat → Int)
    (hd : a.eval d = .slice (some ⟨g, 0, none⟩) n cap) (hs : a.eval s = .slice ao n sCap) (hr : Row w ao n F T G) (hown : Own w g n f0)
    (h : ∀ w', Own w' g n (ar F T G) → w.grownBy w' (some g) → wpList Tryz.prog ops Q rest (a.put o.dst (goInt n)) w') : wpList Tryz.prog ops Q (o :: rest) a w := by
  refine wpList_plain hgd fun K hK => ?_
  by_cases hp : 0 < n
  · obtain ⟨b, o', e, _⟩ := hr 0 hp
    subst e
    have hrun := run_copy_arcs w o.type g n cap b o' sCap F T G f0 hr hown
    unfold Oper.wp
    simp [execOp, ho, resolve, invoke, builtin, hd, hs, hrun, Result.andThen]
    obtain ⟨cur, hb, hcs, hc⟩ := hown
    refine hK _ _ (h _ ⟨_, setRow_heap w g cur _ _ _ hb, by simp [length_cellsOf], fun j hj => ?_⟩ ⟨rfl, rfl, rfl, by simp [World.setRow], fun k _ hne => setRow_other w g k _ (fun e => hne (by rw [e]))⟩)
    rw [List.getElem?_toArray, cellsOf, List.getElem?_map, List.getElem?_range hj]
    rfl
  · have e : n = 0 := by omega
    subst e
    have hrun := run_copy_zero w o.type g cap ao sCap
    unfold Oper.wp
    simp [execOp, ho, resolve, invoke, builtin, hd, hs, hrun, Result.andThen]
    exact hK _ _ (h _ (World.rowIs.congr hown (fun j hj => by omega)) (World.grownBy.refl _ _))
end
section
open Go.RowKit Go.Maps
attribute [local go_sem ↓] Go.wp_at_zero Go.wp_at_succ
theorem hit_of {F T : Nat → Int} {a b : Int} {k : Nat} (hF : F k = a) (hT : T k = b) : ∀ n, k < n → hit F T a b n = true
  | 0, h => by omega
  | n + 1, h => by
    by_cases e : k = n
    · subst e; simp [hit, hF, hT]
    · simp [hit, hit_of hF hT n (by omega)]
theorem hit_none {F T : Nat → Int} {a b : Int} : ∀ n, (∀ k, k < n → ¬ (F k = a ∧ T k = b)) → hit F T a b n = false
  | 0, _ => rfl
  | n + 1, h => by
    have := h n (by omega)
    simp [hit, hit_none n (fun k hk => h k (by omega))]
    exact fun e1 e2 => this ⟨e1, e2⟩
theorem put_at {p : Int} {F T G H : Nat → Int} {n k : Nat} {a b c : Int} (hg : arcsB p F T G n = true) (hk : k < n) (hF : F k = a) (hT : T k = b) : ∀ i, i < n → (if i = k then c else H i) = put F T H a b c i := fun i hi => by
  unfold put
  by_cases e : i = k
  · subst e; rw [if_pos rfl, if_pos ⟨hF, hT⟩]
  · rw [if_neg e, if_neg (fun h => e (unique hg hi hk (h.1.trans hF.symm) (h.2.trans hT.symm)))]
structure RwJ (w : World) (p : Int) (ao : Option Addr) (n cap bo g bm : Nat) (F T H : Nat → Int) (wr : World) : Prop where
  o0 : wr.cell? ⟨bo, 0, none⟩ = some (.int .i64 p)
  o1 : wr.cell? ⟨bo, 1, none⟩ = some (.slice (some ⟨g, 0, none⟩) n n)
  has : Has wr g n (ar F T H)
  map : wr.ownsMap Tryz.prog 110 (plainElem Tryz.prog 3) bm n (nums F T n)
  bel : Below (w.heap.size + 2) ((w.alloc (.cells #[.int .i64 p, .slice ao n cap] 26)).alloc (.cells #[.int .i64 0, .slice none 0 0] 26)) wr
theorem RwJ.next {w : World} {p : Int} {ao : Option Addr} {n cap bo g bm : Nat} {F T H : Nat → Int} {wr wr' : World} (h : RwJ w p ao n cap bo g bm F T H wr) (hb : Below wr.heap.size wr wr') : RwJ w p ao n cap bo g bm F T H wr' :=
  ⟨keep_cell hb nl h.o0, keep_cell hb nl h.o1, h.has.below hb h.has.lt, ownsMap_below h.map hb, below_next h.bel (by simp) hb⟩
theorem RwJ.weights {w : World} {p : Int} {ao : Option Addr} {n cap bo g bm : Nat} {F T H H' : Nat → Int} {wr : World} (h : RwJ w p ao n cap bo g bm F T H wr) (e : ∀ i, i < n → H i = H' i) : RwJ w p ao n cap bo g bm F T H' wr :=
  ⟨h.o0, h.o1, h.has.weights e, h.map, h.bel⟩
theorem RwJ.store {w : World} {p : Int} {ao : Option Addr} {n cap bo g bm : Nat} {F T H : Nat → Int} {wr : World} (h : RwJ w p ao n cap bo g bm F T H wr) (h1 : w.heap.size + 2 ≤ g) (h2 : bo ≠ g) (h3 : bm ≠ g) (k : Nat) (c : Int) :
    RwJ w p ao n cap bo g bm F T (fun i => if i = k then c else H i) (wr.setCell ⟨g, k * 3 + 2, none⟩ (.int .i64 c)) :=
  ⟨by rw [← h.o0]; exact World.cell?_of_block (Below.heap_setCell _ _ _ _ (by simpa using h2)), by rw [← h.o1]; exact World.cell?_of_block (Below.heap_setCell _ _ _ _ (by simpa using h2)), h.has.weigh k c,
   ownsMap_block h.map (Below.heap_setCell _ _ _ _ (by simpa using h3)), h.bel.setCell (by simpa using h1) _⟩
set_option maxHeartbeats 4000000 in
theorem implReweigh_any (p : Int) (ao : Option Addr) (n cap : Nat) (F T G : Nat → Int) (ao2 : Option Addr) (m cap2 : Nat) (A B C : Nat → Int) (hn : n ≤ 1048576) (hm : m ≤ 1048576) (hwf2 : WfTo A B m) (w : World) (hr : Row w ao n F T G) (hr2 : Row w ao2 m A B C)
    (p' : Int) (n' : Nat) (H' : Nat → Int) (ok : Bool) (hres : IsRes (resOf p n F T G m A B C) p n p' n' H' ok) :
    Calls Tryz.prog 132 #[.agg #[.int .i64 p, .slice ao n cap], .slice ao2 m cap2] w fun e w' => ∃ ao' cap', e = .returned (.tuple #[.agg #[.int .i64 p', .slice ao' n' cap'], .bool ok]) ∧ OwnS w' w.heap.size ao' n' (ar F T H') ∧ Below w.heap.size w w' := by
  rcases Bool.eq_false_or_eq_true (graphB p n F T G) with h | h
  rotate_left
  · rcases hres with ⟨hr0, _⟩ | ⟨_, rfl, rfl, rfl⟩
    · rw [resOf_bad h] at hr0; cases hr0
    go_enter Tryz.func132, Tryz.ntmps132
    go_wp2_with (first | (go_at_call 41; refine (implGraphOk_any p ao n cap F T G hn _ ((hr.alloc _).alloc _)).mono ?_; rintro e w1 ⟨rfl, hb1⟩; obtain ⟨⟨q0, q1⟩, ⟨q2, q3⟩, ⟨q4, q5⟩, q6⟩ := box22 (hb1.mono (by simp))))
    exact bodyPost_ret (v := .tuple #[.agg #[.int .i64 0, .slice none 0 0], .bool false]) (by simp [results, Tryz.results132, go_sem, q2, q3, q4, q5]) rfl ⟨none, 0, rfl, fun k hk => by omega, (((unbox2 hb1 (by simp; omega)).setCell (by simp) _).setCell (by simp) _)⟩
  have hmk := make_arcs n hn
  go_enter Tryz.func132, Tryz.ntmps132
  go_upto_region 3 with (first | (go_at_call 41; refine (implGraphOk_any p ao n cap F T G hn _ ((hr.alloc _).alloc _)).mono ?_; rintro e w1 ⟨rfl, hb1⟩; have hA := hb1.mono (B' := w.heap.size + 2) (by simp); obtain ⟨⟨q0, q1⟩, ⟨q2, q3⟩, ⟨q4, q5⟩, q6⟩ := box22 hA))
  go_cut [6] from 15 (fun v wc => ∃ bo g, v = .pointer (some ⟨bo, 0, none⟩) ∧ bo ≠ g ∧ w1.heap.size ≤ bo ∧ w1.heap.size ≤ g ∧ wc.cell? ⟨bo, 0, none⟩ = some (.int .i64 p) ∧ wc.cell? ⟨bo, 1, none⟩ = some (.slice (some ⟨g, 0, none⟩) n n) ∧ Own wc g n (upto (ar F T G) 0) ∧ Below w1.heap.size w1 wc)
  case first =>
    have q7 : w.heap.size < w1.heap.size := by omega
    have q8 : w.heap.size < w1.heap.size + 1 := by omega
    go_region_held3 (fun w' => w'.cell? ⟨w.heap.size, 0, none⟩ = some (.int .i64 p) ∧ w'.cell? ⟨w.heap.size, 1, none⟩ = some (.slice ao n cap))
      (first | (simp [go_sem, q0, q1, q7, q8]; done) | go_keep)
      (fail)
    all_goals go_wp2
    all_goals go_meet
    all_goals
      first
      | exact ⟨w1.heap.size + 1, w1.heap.size, rfl, by omega, by omega, Nat.le_refl _, by simp [go_sem], by simp [go_sem], World.rowIs.alloc (made_own w1 n _) _, Below.drew (((Below.refl _ _).alloc nl _).alloc (by simp) _)⟩
      | exact ⟨w1.heap.size, w1.heap.size + 1, rfl, by omega, Nat.le_refl _, by omega, by simp [go_sem], by simp [go_sem], by have := made_own (w1.alloc (.cells #[.int .i64 p, .slice (some ⟨w1.heap.size + 1, 0, none⟩) n n] 26)) n (ar F T G); simp at this; exact this, Below.drew (((Below.refl _ _).alloc nl _).alloc (by simp) _)⟩
  case rest =>
    obtain ⟨bo, g, rfl, hne, hbo, hg, o0, o1, hown, hbc⟩ := hcut
    have hAc := below_next hA (by simp) hbc
    obtain ⟨⟨r0, r1⟩, ⟨r2, r3⟩, ⟨r4, r5⟩, r6⟩ := box22 hAc
    have hrc := hr.below (unbox2 hAc (by omega)) nl
    have hwf := wf_small (graphB_p h) (graphB_arcs h).2
    have HG : Hid (arcsB p F T G n = true) := (graphB_arcs h).2
    have HR : Hid (IsRes (rw' F T G A B C n m) p n p' n' H' ok) := by rw [resOf_good h] at hres; exact hres
    clear hres q0 q1 q2 q3 q4 q5 hmk
    go_wp2_with (first | (refine wpList_copy_arcs rfl (.tmp 24) (.tmp 26) rfl g n n ao cap F T G (upto (ar F T G) 0) (by rfl) (by rfl) hrc hown ?_; intro w3 hown3 hgr3; have hA3 := hAc.trans (grown_below hgr3 (B := w.heap.size + 2) (by omega) (by omega)); have o0' := keep_grown hgr3 (by simp; exact hne) o0; have o1' := keep_grown hgr3 (by simp; exact hne) o1; obtain ⟨⟨s0, s1⟩, _⟩ := box22 hA3) | (go_at_call 133; refine (arcNumbers_any p ao n cap F T G hn hwf _ (hr.below (unbox2 hA3 (by omega)) nl)).mono ?_; rintro e w4 ⟨rfl, hmap, hb4⟩))
    have hh3 := Has.of_own hown3
    have hgl := hh3.lt
    have hJ : RwJ w p ao n cap bo g (w3.heap.size + 1) F T G w4 := ⟨keep_cell hb4 nl o0', keep_cell hb4 nl o1', hh3.below hb4 hgl, hmap, below_next hA3 (by simp) hb4⟩
    have hg2 : w.heap.size + 2 ≤ g := by omega
    have hbm : w3.heap.size + 1 ≠ g := by omega
    clear hA hAc hA3 hb1 hbc hb4 hmap hown hown3 hh3 hgr3 o0 o1 o0' o1' s0 s1 r0 r1 r2 r3 r4 r5 r6 hrc
    go_loopw [32] (fun x wr => ∃ i : Nat, i ≤ m ∧ x = .int .i64 i ∧ ∃ H, Hid (rw' F T G A B C n i = some H) ∧ RwJ w p ao n cap bo g (w3.heap.size + 1) F T H wr) (fun x _ => m - (intOf x).toNat)
    case atStart => exact ⟨0, Nat.zero_le _, rfl, G, rfl, hJ⟩
    case round =>
      clear hJ
      obtain ⟨i, hi, rfl, H, hrw, hJ⟩ := hrel
      obtain ⟨⟨q0, q1⟩, ⟨q2, q3⟩, ⟨q4, q5⟩, q6'⟩ := box22 hJ.bel
      have o0 := hJ.o0
      have o1 := hJ.o1
      by_cases hlt : i < m
      rotate_left
      · have e : i = m := by omega
        subst e
        go_wp2
        obtain ⟨hr0, rfl, rfl, rfl⟩ | ⟨hr0, _⟩ := HR.out
        rotate_left
        · rw [hrw.out] at hr0; cases hr0
        obtain rfl : H = H' := by rw [hrw.out] at hr0; simpa using hr0
        have hne' : ∀ x : Addr, x.block = w.heap.size + 1 → g ≠ x.block := fun x e => by omega
        refine bodyPost_ret (v := .tuple #[.agg #[.int .i64 p', .slice (some ⟨g, 0, none⟩) n' n'], .bool true]) (by simp [results, Tryz.results132, go_sem, q2, q3, q4, q5]) rfl ⟨_, n', rfl, fun k hk => ⟨g, rfl, by omega, ?_⟩, ?_⟩
        · exact (hJ.has.of_block (Below.heap_setCell _ _ _ _ (hne' _ rfl))).of_block (Below.heap_setCell _ _ _ _ (hne' _ rfl))
        · exact ((unbox2 hJ.bel (by omega)).setCell (by simp) _).setCell (by simp) _
      obtain ⟨b2, o2, hao2, a0, a1, a2⟩ := (hr2.below (unbox2 hJ.bel (by omega)) nl) i hlt
      subst hao2
      have hkey := key_ends (A i) (B i) (hwf2 i hlt).1 (hwf2 i hlt).2
      rcases nums_look F T (A i) (B i) (hwf2 i hlt).1 (hwf2 i hlt).2 n hwf with ⟨l1, l2⟩ | ⟨k, hk, l1, l2, l3, l4⟩
      · have L2 : Hid (hit F T (A i) (B i) n = false) := hit_none n l2
        clear l2
        go_wp2_with (first | (go_at_call 71; refine (endsOf_any _ _ _ _).mono ?_; rintro e w5 ⟨rfl, hb5⟩; have hJ5 := hJ.next (unbox hb5 (by simp)); have hm5 := hJ5.map; obtain ⟨⟨x0, x1⟩, ⟨x2, x3⟩, ⟨x4, x5⟩, x6⟩ := box22 hJ5.bel) | (at_lookup; refine wpList_lookup_own_ok_int _ rfl _ _ 175 rfl 110 3 .i64 Tryz.keyLaw Tryz.underlying175 Tryz.underlying3 (Tryz.mapZero _) _ n _ rfl hm5 _ _ rfl hkey ?_; intro cc hat hwc))
        obtain ⟨hr0, _⟩ | ⟨_, rfl, rfl, rfl⟩ := HR.out
        · rw [rw'_none (rw'_no hrw.out (Or.inl L2.out)) m (by omega)] at hr0; cases hr0
        exact bodyPost_ret (v := .tuple #[.agg #[.int .i64 0, .slice none 0 0], .bool false]) (by simp [results, Tryz.results132, go_sem, x2, x3, x4, x5]) rfl ⟨none, 0, rfl, fun k hk => by omega, ((unbox2 hJ5.bel (by omega)).setCell (by simp) _).setCell (by simp) _⟩
      · have L4 : Hid ((nums F T n).atKey (kl (A i) (B i)) (.lit (.int .i64 0)) = .lit (.int .i64 (k : Int))) := l4
        have L2 : Hid (hit F T (A i) (B i) n = true) := hit_of l1 l2 n hk
        have E1 : Hid (F k = A i) := l1
        have E2 : Hid (T k = B i) := l2
        clear l1 l2 l4
        rcases Bool.eq_false_or_eq_true (inB (C i) 1 1000000) with hc | hc
        · go_wp2_with (first | (go_at_call 71; refine (endsOf_any _ _ _ _).mono ?_; rintro e w5 ⟨rfl, hb5⟩; have hJ5 := hJ.next (unbox hb5 (by simp)); have hm5 := hJ5.map; have y2 := keep_cell hb5 nl (b := wr.heap.size) (o := 2) (by simp [go_sem]; rfl); have y0 := hJ5.o0; have y1 := hJ5.o1; have d2 := hJ5.has.cell (j := k * 3 + 2) (by omega); have z2 := hJ5.has.frozen (k * 3 + 2)) | (at_lookup; refine wpList_lookup_own_ok_int _ rfl _ _ 175 rfl 110 3 .i64 Tryz.keyLaw Tryz.underlying175 Tryz.underlying3 (Tryz.mapZero _) _ n _ rfl hm5 _ _ rfl hkey ?_; intro cc hat hwc; obtain rfl : cc = (k : Int) := by (rw [L4.out] at hat; simpa using hat.symm)) | (go_at_call 93; refine (weightOk_any _ _).mono ?_; rintro e w6 ⟨rfl, rfl⟩))
          have hS := (hJ5.store hg2 hne hbm k (C i)).weights (put_at HG.out hk E1.out E2.out)
          go_roundw
          case rel => exact ⟨i + 1, by omega, by go_num, _, rw'_yes hrw.out L2.out hc, hS⟩
          case measure => simp [intOf]; omega
        · go_wp2_with (first | (go_at_call 71; refine (endsOf_any _ _ _ _).mono ?_; rintro e w5 ⟨rfl, hb5⟩; have hJ5 := hJ.next (unbox hb5 (by simp)); have hm5 := hJ5.map; have y2 := keep_cell hb5 nl (b := wr.heap.size) (o := 2) (by simp [go_sem]; rfl); obtain ⟨⟨x0, x1⟩, ⟨x2, x3⟩, ⟨x4, x5⟩, x6⟩ := box22 hJ5.bel) | (at_lookup; refine wpList_lookup_own_ok_int _ rfl _ _ 175 rfl 110 3 .i64 Tryz.keyLaw Tryz.underlying175 Tryz.underlying3 (Tryz.mapZero _) _ n _ rfl hm5 _ _ rfl hkey ?_; intro cc hat hwc; obtain rfl : cc = (k : Int) := by (rw [L4.out] at hat; simpa using hat.symm)) | (go_at_call 93; refine (weightOk_any _ _).mono ?_; rintro e w6 ⟨rfl, rfl⟩))
          obtain ⟨hr0, _⟩ | ⟨_, rfl, rfl, rfl⟩ := HR.out
          · rw [rw'_none (rw'_no hrw.out (Or.inr hc)) m (by omega)] at hr0; cases hr0
          exact bodyPost_ret (v := .tuple #[.agg #[.int .i64 0, .slice none 0 0], .bool false]) (by simp [results, Tryz.results132, go_sem, x2, x3, x4, x5]) rfl ⟨none, 0, rfl, fun k hk => by omega, ((unbox2 hJ5.bel (by omega)).setCell (by simp) _).setCell (by simp) _⟩
end
section
open Go.RowKit
attribute [local go_sem ↓] Go.wp_at_zero Go.wp_at_succ
def edgeB (l h p : Int) : Bool := inB l 0 (p - 1) && inB h (l + 1) (p - 1)
def edB (p : Int) (L H : Nat → Int) : Nat → Bool
  | 0 => true
  | k + 1 => edB p L H k && (edgeB (L k) (H k) p && (k == 0 || upB (L (k - 1)) (H (k - 1)) (L k) (H k)))
def edgesB (p : Int) (n : Nat) (L H : Nat → Int) : Bool := inB p 1 24 && edB p L H n
theorem edB_no {p : Int} {L H : Nat → Int} {k : Nat} (h : edgeB (L k) (H k) p = false) : ∀ n, k < n → edB p L H n = false
  | 0, hk => by omega
  | n + 1, hk => by
    by_cases e : k = n
    · subst e; simp [edB, h]
    · simp [edB, edB_no h n (by omega)]
theorem edB_down {p : Int} {L H : Nat → Int} {k : Nat} (h0 : 0 < k) (h : upB (L (k - 1)) (H (k - 1)) (L k) (H k) = false) : ∀ n, k < n → edB p L H n = false
  | 0, hk => by omega
  | n + 1, hk => by
    by_cases e : k = n
    · subst e
      have : (k == 0) = false := by simp; omega
      simp [edB, h, this]
    · simp [edB, edB_down h0 h n (by omega)]
theorem edB_step {p : Int} {L H : Nat → Int} {k : Nat} (h : edB p L H k = true) (ha : edgeB (L k) (H k) p = true) (hu : k = 0 ∨ upB (L (k - 1)) (H (k - 1)) (L k) (H k) = true) : edB p L H (k + 1) = true := by
  rcases hu with hu | hu
  · subst hu; simp [edB, ha]
  · simp [edB, h, ha, hu]
theorem edB_at {p : Int} {L H : Nat → Int} : ∀ n, edB p L H n = true → ∀ k, k < n → edgeB (L k) (H k) p = true
  | 0, _, k, hk => by omega
  | n + 1, h, k, hk => by
    simp [edB] at h
    by_cases e : k = n
    · subst e; exact h.2.1
    · exact edB_at n h.1 k (by omega)
theorem edgeB_in {l h p : Int} (H : edgeB l h p = true) : 0 ≤ l ∧ l < h ∧ h < p := by
  simp [edgeB, inB] at H
  omega
set_option maxHeartbeats 800000 in
theorem edgeOk_any (l h p : Int) (w : World) :
    Calls Tryz.prog 154 #[.agg #[.int .i64 l, .int .i64 h], .int .i64 p] w fun e w' => e = .returned (.bool (edgeB l h p)) ∧ Below w.heap.size w w' := by
  have e : edgeB l h p = (decide (0 ≤ l) && (decide (l < h) && decide (h < p))) := by
    unfold edgeB inB
    rw [Bool.eq_iff_iff]
    simp
    omega
  rw [e]
  clear e
  by_cases h1 : 0 ≤ l
  · by_cases h2 : l < h
    · by_cases h3 : h < p <;>
      · go_enter Tryz.func154, Tryz.ntmps154
        go_wp2
        go_ret
        exact ⟨by simp [h1, h2, h3], (Below.refl _ _).alloc nl _⟩
    · go_enter Tryz.func154, Tryz.ntmps154
      go_wp2
      go_ret
      exact ⟨by simp [h2]; omega, (Below.refl _ _).alloc nl _⟩
  · go_enter Tryz.func154, Tryz.ntmps154
    go_wp2
    go_ret
    exact ⟨by simp [h1]; omega, (Below.refl _ _).alloc nl _⟩
set_option maxHeartbeats 1600000 in
theorem edgesOk_any (p : Int) (ao : Option Addr) (n cap : Nat) (L H : Nat → Int) (hn : n ≤ 1048576) (w : World) (hr : ERow w ao n L H) :
    Calls Tryz.prog 151 #[.slice ao n cap, .int .i64 p] w fun e w' => e = .returned (.bool (edgesB p n L H)) ∧ Below w.heap.size w w' := by
  by_cases h1 : p < 1
  · have h' : inB p 1 24 = false := by simp [inB]; omega
    go_enter Tryz.func151, Tryz.ntmps151
    go_wp2
    go_ret
    exact ⟨ret_bool (by simp [edgesB, h']), Below.refl _ _⟩
  by_cases h2 : 24 < p
  · have h' : inB p 1 24 = false := by simp [inB]; omega
    go_enter Tryz.func151, Tryz.ntmps151
    go_wp2
    go_ret
    exact ⟨ret_bool (by simp [edgesB, h']), Below.refl _ _⟩
  have hin : Hid (inB p 1 24 = true) := by show inB p 1 24 = true; simp [inB]; omega
  go_enter Tryz.func151, Tryz.ntmps151
  go_wp2
  go_loopw [15] (fun i wr => ∃ k : Nat, k ≤ n ∧ i = .int .i64 k ∧ edB p L H k = true ∧ Below w.heap.size w wr) (fun i _ => n - (intOf i).toNat)
  case atStart => exact ⟨0, Nat.zero_le _, rfl, rfl, Below.refl _ _⟩
  case round =>
    obtain ⟨k, hk, rfl, hok, hbel⟩ := hrel
    have HOK : Hid (edB p L H k = true) := hok
    clear hok
    by_cases hlt : k < n
    rotate_left
    · have hkn : k = n := by omega
      subst hkn
      go_wp2
      go_ret
      exact ⟨ret_bool (by simp [edgesB, hin.out, HOK.out]), hbel⟩
    obtain ⟨b, o, hao, c0, c1⟩ := (hr.below hbel nl) k hlt
    subst hao
    have hsz := hbel.size
    rcases Bool.eq_false_or_eq_true (edgeB (L k) (H k) p) with ha | ha
    rotate_left
    · go_wp2_with (go_at_call 154; refine (edgeOk_any _ _ _ _).mono ?_; rintro e w1 ⟨rfl, hb1⟩)
      go_ret
      exact ⟨ret_bool (by simp [edgesB, edB_no ha n hlt]), below_next (hbel.alloc (by omega) _) nl hb1⟩
    by_cases h0 : 0 < k
    rotate_left
    · have hd : decide (0 < (k : Int)) = false := by simp; omega
      go_wp2_with (go_at_call 154; refine (edgeOk_any _ _ _ _).mono ?_; rintro e w1 ⟨rfl, hb1⟩)
      have hA := below_next (hbel.alloc (by omega) _) nl hb1
      go_quiet (fail)
      go_wp2
      go_roundw
      case rel => exact ⟨k + 1, by omega, by go_num, edB_step HOK.out ha (Or.inl (by omega)), below_drewN hA _⟩
      case measure => simp [intOf]; omega
    have hbw : b < wr.heap.size := lt_of_cell c0
    obtain ⟨b', o', hao', d0, d1⟩ := (hr.below hbel nl) (k - 1) (by omega)
    simp only [Option.some.injEq, Addr.mk.injEq, and_true] at hao'
    obtain ⟨rfl, rfl⟩ := hao'
    have hk1 : (0 : Int) ≤ (k : Int) - 1 := by omega
    have hk2 : (k : Int) - 1 < (n : Int) := by omega
    have hk3 : IntKind.i64.wrap ((k : Int) - 1) = (k : Int) - 1 := by rw [IntKind.wrap_i64]; omega
    have hk4 : ((k : Int) - 1).toNat = k - 1 := by omega
    have hk5 : (1 : Int) ≤ (k : Int) := by omega
    have hk6 : (k : Int) ≤ (n : Int) := by omega
    have hk7 : 1 ≤ k := by omega
    have hcu := cmpE_up (L (k - 1)) (H (k - 1)) (L k) (H k)
    rcases Bool.eq_false_or_eq_true (upB (L (k - 1)) (H (k - 1)) (L k) (H k)) with hu | hu
    · have hge : ¬ 0 ≤ cmpE (L (k - 1)) (H (k - 1)) (L k) (H k) := by have := hcu.2 hu; omega
      clear hcu
      go_wp2_with (go_at_call 154; refine (edgeOk_any _ _ _ _).mono ?_; rintro e w1 ⟨rfl, hb1⟩)
      have hbw1 := unbox hb1 (by simp)
      have hA := (hbel.alloc (by omega) _).trans (hb1.mono (by simp; omega))
      have s1 := keep_cell hbw1 nl d0
      have s2 := keep_cell hbw1 nl d1
      have s4 := keep_cell hb1 nl (b := wr.heap.size) (o := 0) (by simp [go_sem]; rfl)
      have s5 := keep_cell hb1 nl (b := wr.heap.size) (o := 1) (by simp [go_sem]; rfl)
      go_region_held3 (fun w' => w'.cell? ⟨b, o + (k - 1) * 2, none⟩ = some (.int .i64 (L (k - 1))) ∧ w'.cell? ⟨b, o + (k - 1) * 2 + 1, none⟩ = some (.int .i64 (H (k - 1))) ∧ w'.cell? ⟨wr.heap.size, 0, none⟩ = some (.int .i64 (L k)) ∧ w'.cell? ⟨wr.heap.size, 1, none⟩ = some (.int .i64 (H k)))
        (first | (go_split_ands; refine ⟨?_, ?_, ?_, ?_⟩ <;> exact keep_cell hb2 nl (by assumption)) | go_keep)
        (first | (go_at_call 83; refine (compareEdges_any _ _ _ _ _).mono ?_; rintro e w2 ⟨rfl, hb2⟩; (first | have hA := below_next hA (by simp) hb2 | have hA := below_next hA.drew (by simp) hb2)))
      go_wp2
      go_roundw
      case rel => exact ⟨k + 1, by omega, by go_num, edB_step HOK.out ha (Or.inr hu), hA⟩
      case measure => simp [intOf]; omega
    · have hge : 0 ≤ cmpE (L (k - 1)) (H (k - 1)) (L k) (H k) := by
        by_cases h : cmpE (L (k - 1)) (H (k - 1)) (L k) (H k) < 0
        · rw [hcu.1 h] at hu; cases hu
        · omega
      clear hcu
      go_wp2_with (go_at_call 154; refine (edgeOk_any _ _ _ _).mono ?_; rintro e w1 ⟨rfl, hb1⟩)
      have hbw1 := unbox hb1 (by simp)
      have hA := (hbel.alloc (by omega) _).trans (hb1.mono (by simp; omega))
      have s1 := keep_cell hbw1 nl d0
      have s2 := keep_cell hbw1 nl d1
      have s4 := keep_cell hb1 nl (b := wr.heap.size) (o := 0) (by simp [go_sem]; rfl)
      have s5 := keep_cell hb1 nl (b := wr.heap.size) (o := 1) (by simp [go_sem]; rfl)
      go_region_held3 (fun w' => w'.cell? ⟨b, o + (k - 1) * 2, none⟩ = some (.int .i64 (L (k - 1))) ∧ w'.cell? ⟨b, o + (k - 1) * 2 + 1, none⟩ = some (.int .i64 (H (k - 1))) ∧ w'.cell? ⟨wr.heap.size, 0, none⟩ = some (.int .i64 (L k)) ∧ w'.cell? ⟨wr.heap.size, 1, none⟩ = some (.int .i64 (H k)))
        (first | (go_split_ands; refine ⟨?_, ?_, ?_, ?_⟩ <;> exact keep_cell hb2 nl (by assumption)) | go_keep)
        (first | (go_at_call 83; refine (compareEdges_any _ _ _ _ _).mono ?_; rintro e w2 ⟨rfl, hb2⟩; (first | have hA := below_next hA (by simp) hb2 | have hA := below_next hA.drew (by simp) hb2)))
      go_wp2
      go_ret
      exact ⟨ret_bool (by simp [edgesB, edB_down h0 hu n hlt]), hA⟩
def Hs (n : Nat) (L H : Nat → Int) (a b : Int) : Prop := ∃ i, i < n ∧ L i = a ∧ H i = b
def ChdTo (n : Nat) (L H : Nat → Int) (m : Nat) : Prop := ∀ i, i < m → ∀ k, i < k → k < n → (∀ j, i < j → j ≤ k → L j = L i) → Hs n L H (H i) (H k)
def Chd (p : Int) (n : Nat) (L H : Nat → Int) : Prop := edgesB p n L H = true ∧ ChdTo n L H n
end
end Go.Proofs.YthmpliljffmmcaaGreatDoor
