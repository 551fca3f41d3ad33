/-
  The document's Reweigh answers the weights that 'resOf' tells, in new memory.
-/
import Derived.Test.YtmnohgcjdhokdahPack2
import Derived.Test.YtmnohgcjdhokdahPack7
set_option linter.unusedVariables false
set_option linter.unusedSimpArgs false
namespace Go.Proofs.Ytmnohgcjdhokdah
open Go.RowKit Go.Maps
attribute [local go_sem ↓] Go.wp_at_zero Go.wp_at_succ

theorem resOf_bad {p : Int} {n : Nat} {F T G : Nat → Int} {m : Nat} {A B C : Nat → Int} (h : graphB p n F T G = false) : resOf p n F T G m A B C = none := by simp [resOf, h]
theorem resOf_good {p : Int} {n : Nat} {F T G : Nat → Int} {m : Nat} {A B C : Nat → Int} (h : graphB p n F T G = true) : resOf p n F T G m A B C = rw' F T G A B C n m := by simp [resOf, h]
/-- What stands in memory while the document's Reweigh goes through the new arcs: the copy in its box, its weights so far, all else as it was. -/
structure RwI (w w2 : World) (p : Int) (ao : Option Addr) (n cap g capg : Nat) (F T H : Nat → Int) (wr : World) : Prop where
  o0 : wr.cell? ⟨w2.heap.size, 0, none⟩ = some (.int .i64 p)
  o1 : wr.cell? ⟨w2.heap.size, 1, none⟩ = some (.slice (some ⟨g, 0, none⟩) n capg)
  has : 0 < n → Has wr g n (ar F T H)
  bel : Below (w.heap.size + 2) ((w.alloc (.cells #[.int .i64 p, .slice ao n cap] 47)).alloc (.cells #[.int .i64 0, .slice none 0 0] 47)) wr
theorem RwI.drewN {w w2 : World} {p : Int} {ao : Option Addr} {n cap g capg : Nat} {F T H : Nat → Int} {wr : World} (h : RwI w w2 p ao n cap g capg F T H wr) (q : Nat) : RwI w w2 p ao n cap g capg F T H (wr.drewN q) :=
  ⟨h.o0, h.o1, h.has, below_drewN h.bel q⟩
theorem RwI.drew {w w2 : World} {p : Int} {ao : Option Addr} {n cap g capg : Nat} {F T H : Nat → Int} {wr : World} (h : RwI w w2 p ao n cap g capg F T H wr) : RwI w w2 p ao n cap g capg F T H wr.drew :=
  ⟨h.o0, h.o1, h.has, h.bel.drew⟩
theorem RwI.weights {w w2 : World} {p : Int} {ao : Option Addr} {n cap g capg : Nat} {F T H H' : Nat → Int} {wr : World} (h : RwI w w2 p ao n cap g capg F T H wr) (e : ∀ i, i < n → H i = H' i) : RwI w w2 p ao n cap g capg F T H' wr :=
  ⟨h.o0, h.o1, fun hp => (h.has hp).weights e, h.bel⟩
theorem RwI.store {w w2 : World} {p : Int} {ao : Option Addr} {n cap g capg : Nat} {F T H : Nat → Int} {wr : World} (h : RwI w w2 p ao n cap g capg F T H wr) (h1 : w.heap.size + 2 ≤ g) (h2 : g < w2.heap.size) (k : Nat) (c : Int) :
    RwI w w2 p ao n cap g capg F T (fun i => if i = k then c else H i) (wr.setCell ⟨g, k * 3 + 2, none⟩ (.int .i64 c)) :=
  ⟨by rw [← h.o0]; exact World.cell?_of_block (Below.heap_setCell _ _ _ _ (by simp; omega)), by rw [← h.o1]; exact World.cell?_of_block (Below.heap_setCell _ _ _ _ (by simp; omega)), fun hp => (h.has hp).weigh k c, h.bel.setCell (by simpa using h1) _⟩
set_option maxHeartbeats 4000000 in
theorem specReweigh_own (p : Int) (ao : Option Addr) (n cap : Nat) (F T G : Nat → Int) (ao2 : Option Addr) (m cap2 : Nat) (A B C : Nat → Int) (hn : n ≤ 1048576) (hm : m ≤ 1048576) (w : World) (hr : Row w ao n F T G) (hr2 : Row w ao2 m A B C)
    (p' : Int) (n' : Nat) (H' : Nat → Int) (ok : Bool) (hres : IsRes (resOf p n F T G m A B C) p n p' n' H' ok) :
    Calls Try.prog 57 #[.agg #[.int .i64 p, .slice ao n cap], .slice ao2 m cap2] w fun e w' => ∃ ao' cap', e = .returned (.tuple #[.agg #[.int .i64 p', .slice ao' n' cap'], .bool ok]) ∧ OwnS w' w.heap.size ao' n' (ar F T H') ∧ Below w.heap.size w w' := by
  rcases Bool.eq_false_or_eq_true (graphB p n F T G) with h | h
  rotate_left
  · rcases hres with ⟨hr0, _⟩ | ⟨_, rfl, rfl, rfl⟩
    · rw [resOf_bad h] at hr0; cases hr0
    go_enter Try.func57, Try.ntmps57
    go_wp2_with (first | (go_at_call 94; refine (specGraphOk_any p ao n cap F T G hn _ ((hr.alloc _).alloc _)).mono ?_; rintro e w1 ⟨rfl, hb1⟩; obtain ⟨⟨q0, q1⟩, ⟨q2, q3⟩, ⟨q4, q5⟩, q6⟩ := box22 (hb1.mono (by simp))))
    exact bodyPost_ret (v := .tuple #[.agg #[.int .i64 0, .slice none 0 0], .bool false]) (by simp [results, Try.results57, go_sem, q2, q3, q4, q5]) rfl ⟨none, 0, rfl, fun k hk => by omega, (((unbox2 hb1 (by simp; omega)).setCell (by simp) _).setCell (by simp) _)⟩
  go_enter Try.func57, Try.ntmps57
  go_wp2_with (first | (go_at_call 94; refine (specGraphOk_any p ao n cap F T G hn _ ((hr.alloc _).alloc _)).mono ?_; rintro e w1 ⟨rfl, hb1⟩; have hA := hb1.mono (B' := w.heap.size + 2) (by simp); obtain ⟨⟨q0, q1⟩, ⟨q2, q3⟩, ⟨q4, q5⟩, q6⟩ := box22 hA) | (go_at_call 95; refine (l1Copy_any p ao n cap F T G hn _ (((hr.alloc _).alloc _).below hb1 (Nat.le_refl _))).mono ?_; rintro e w2 ⟨g, capg, rfl, hg1, hg2, hhas, hb2⟩; have hA := below_next hA (by simp) hb2))
  have hg1' : w.heap.size + 2 ≤ g := by omega
  have hA2 : Below (w.heap.size + 2) _ (w2.alloc (.cells #[.int .i64 p, .slice (some ⟨g, 0, none⟩) n capg] 47)) := hA.alloc (by have := hA.size; simp at this; omega) _
  have hI : RwI w w2 p ao n cap g capg F T G (w2.alloc (.cells #[.int .i64 p, .slice (some ⟨g, 0, none⟩) n capg] 47)) :=
    ⟨by simp [go_sem], by simp [go_sem], fun hp => (hhas hp).below ((Below.refl w2.heap.size _).alloc (Nat.le_refl _) _) hg2, hA2⟩
  have HR : Hid (IsRes (rw' F T G A B C n m) p n p' n' H' ok) := by rw [resOf_good h] at hres; exact hres
  clear hres hb1 hb2 hA hA2 q0 q1 q2 q3 q4 q5 q6 hhas hg1
  go_loopw [7] (fun x wr => ∃ i : Nat, i ≤ m ∧ x = .int .i64 i ∧ ∃ H, Hid (rw' F T G A B C n i = some H) ∧ RwI w w2 p ao n cap g capg F T H wr) (fun x _ => m - (intOf x).toNat)
  case atStart => exact ⟨0, Nat.zero_le _, rfl, G, rfl, hI⟩
  case round =>
    obtain ⟨i, hi, rfl, H, hrw, hI⟩ := hrel
    obtain ⟨⟨q0, q1⟩, ⟨q2, q3⟩, ⟨q4, q5⟩, q6⟩ := box22 hI.bel
    have o0 := hI.o0
    have o1 := hI.o1
    by_cases hlt : i < m
    rotate_left
    · have e : i = m := by omega
      subst e
      go_wp2
      obtain ⟨hr0, rfl, rfl, rfl⟩ | ⟨hr0, _⟩ := HR.out
      rotate_left
      · rw [hrw.out] at hr0; cases hr0
      obtain rfl : H = H' := by rw [hrw.out] at hr0; simpa using hr0
      have hne : ∀ x : Addr, x.block = w.heap.size + 1 → g ≠ x.block := fun x e => by omega
      refine bodyPost_ret (v := .tuple #[.agg #[.int .i64 p', .slice (some ⟨g, 0, none⟩) n' capg], .bool true]) (by simp [results, Try.results57, go_sem, q2, q3, q4, q5]) rfl ⟨_, capg, rfl, fun k hk => ?_, ?_⟩
      · exact ⟨g, rfl, by omega, ((hI.has (by omega)).of_block (Below.heap_setCell _ _ _ _ (hne _ rfl))).of_block (Below.heap_setCell _ _ _ _ (hne _ rfl))⟩
      · exact ((unbox2 hI.bel (by omega)).setCell (by simp) _).setCell (by simp) _
    obtain ⟨b2, o2, hao2, a0, a1, a2⟩ := (hr2.below (unbox2 hI.bel (by omega)) (Nat.le_refl _)) i hlt
    subst hao2
    go_wp2
    go_loopw [8, 9] (fun fd x wr => ∃ k : Nat, k ≤ n ∧ x = .int .i64 k ∧ fd = .bool (hit F T (A i) (B i) k) ∧ RwI w w2 p ao n cap g capg F T (part F T H (A i) (B i) (C i) k) wr) (fun _ x _ => n - (intOf x).toNat)
    case atStart => exact ⟨0, Nat.zero_le _, rfl, rfl, hI.weights (fun i _ => (part_zero i).symm)⟩
    case round =>
      clear q0 q1 q2 q3 q4 q5 q6 o0 o1 a0 a1 a2 hI
      obtain ⟨k, hk, rfl, rfl, hI⟩ := hrel
      have o0 := hI.o0
      have o1 := hI.o1
      obtain ⟨⟨q0, q1⟩, ⟨q2, q3⟩, ⟨q4, q5⟩, q6⟩ := box22 hI.bel
      obtain ⟨b2', o2', hao2', a0, a1, a2⟩ := (hr2.below (unbox2 hI.bel (by omega)) (Nat.le_refl _)) i hlt
      simp only [Option.some.injEq, Addr.mk.injEq, and_true] at hao2'
      obtain ⟨rfl, rfl⟩ := hao2'
      by_cases hlk : k < n
      rotate_left
      · have e : k = n := by omega
        subst e
        have hfin := hI.weights (fun i' hi' => part_all hi')
        rcases Bool.eq_false_or_eq_true (hit F T (A i) (B i) k) with hh | hh
        · rcases Bool.eq_false_or_eq_true (inB (C i) 1 1000000) with hc | hc
          · go_wp2_with (first | (go_at_call 46; refine (l1In_any _ _ _ _).mono ?_; rintro e w1 ⟨rfl, rfl⟩))
            go_roundw
            case rel => exact ⟨i + 1, by omega, by go_num, _, rw'_yes hrw.out hh hc, hfin⟩
            case measure => simp [intOf]; omega
          · go_wp2_with (first | (go_at_call 46; refine (l1In_any _ _ _ _).mono ?_; rintro e w1 ⟨rfl, rfl⟩))
            obtain ⟨hr0, _⟩ | ⟨_, rfl, rfl, rfl⟩ := HR.out
            · rw [rw'_none (rw'_no hrw.out (Or.inr hc)) m (by omega)] at hr0; cases hr0
            exact bodyPost_ret (v := .tuple #[.agg #[.int .i64 0, .slice none 0 0], .bool false]) (by simp [results, Try.results57, go_sem, q2, q3, q4, q5]) rfl ⟨none, 0, rfl, fun k hk => by omega, ((unbox2 hfin.bel (by omega)).setCell (by simp) _).setCell (by simp) _⟩
        · go_wp2_with (first | (go_at_call 46; refine (l1In_any _ _ _ _).mono ?_; rintro e w1 ⟨rfl, rfl⟩))
          obtain ⟨hr0, _⟩ | ⟨_, rfl, rfl, rfl⟩ := HR.out
          · rw [rw'_none (rw'_no hrw.out (Or.inl hh)) m (by omega)] at hr0; cases hr0
          exact bodyPost_ret (v := .tuple #[.agg #[.int .i64 0, .slice none 0 0], .bool false]) (by simp [results, Try.results57, go_sem, q2, q3, q4, q5]) rfl ⟨none, 0, rfl, fun k hk => by omega, ((unbox2 hfin.bel (by omega)).setCell (by simp) _).setCell (by simp) _⟩
      have hH := hI.has (by omega)
      have d0 : wr.cell? ⟨g, k * 3, none⟩ = some (.int .i64 (F k)) := by rw [hH.cell (by omega), ar0]
      have d1 : wr.cell? ⟨g, k * 3 + 1, none⟩ = some (.int .i64 (T k)) := by rw [hH.cell (by omega), ar1]
      have d2 := hH.cell (j := k * 3 + 2) (by omega)
      have z2 := hH.frozen (k * 3 + 2)
      clear hH
      rcases Bool.eq_false_or_eq_true (F k == A i) with hF | hF
      · rcases Bool.eq_false_or_eq_true (T k == B i) with hT | hT
        · go_wp2
          go_quiet (fail)
          go_wp2
          go_region
          go_wp2
          have eF : F k = A i := by simpa using hF
          have eT : T k = B i := by simpa using hT
          go_roundw
          case rel => exact ⟨k + 1, by omega, by go_num, by simp [hit, hF, hT], (((hI.drewN _).drew).store hg1' hg2 k (C i)).weights (fun i' _ => part_hit eF eT i')⟩
          case measure => simp [intOf]; omega
        · have eT : ¬ T k = B i := by simpa using hT
          have ET : Hid (¬ T k = B i) := eT
          clear eT
          go_wp2
          go_quiet (fail)
          go_wp2
          go_roundw
          case rel => exact ⟨k + 1, by omega, by go_num, by simp [hit, hF, hT], (hI.drewN _).weights (fun i' _ => part_miss (fun h => ET.out h.2) i')⟩
          case measure => simp [intOf]; omega
      · have eF : ¬ F k = A i := by simpa using hF
        have EF : Hid (¬ F k = A i) := eF
        clear eF
        go_wp2
        go_quiet (fail)
        go_wp2
        go_roundw
        case rel => exact ⟨k + 1, by omega, by go_num, by simp [hit, hF], (hI.drewN _).weights (fun i' _ => part_miss (fun h => EF.out h.1) i')⟩
        case measure => simp [intOf]; omega

theorem specReweigh_any (p : Int) (ao : Option Addr) (n cap : Nat) (F T G : Nat → Int) (ao2 : Option Addr) (m cap2 : Nat) (A B C : Nat → Int) (hn : n ≤ 1048576) (hm : m ≤ 1048576) (w : World) (hr : Row w ao n F T G) (hr2 : Row w ao2 m A B C)
    (p' : Int) (n' : Nat) (H' : Nat → Int) (ok : Bool) (hres : IsRes (resOf p n F T G m A B C) p n p' n' H' ok) :
    Calls Try.prog 57 #[.agg #[.int .i64 p, .slice ao n cap], .slice ao2 m cap2] w fun e w' => ∃ ao' cap', e = .returned (.tuple #[.agg #[.int .i64 p', .slice ao' n' cap'], .bool ok]) ∧ Row w' ao' n' F T H' ∧ Below w.heap.size w w' :=
  (specReweigh_own p ao n cap F T G ao2 m cap2 A B C hn hm w hr hr2 p' n' H' ok hres).mono (fun e w' ⟨ao', cap', h1, h2, h3⟩ => ⟨ao', cap', h1, h2.row, h3⟩)

end Go.Proofs.Ytmnohgcjdhokdah
