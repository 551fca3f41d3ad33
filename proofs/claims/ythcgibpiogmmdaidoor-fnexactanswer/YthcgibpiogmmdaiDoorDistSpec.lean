/-
  The document's Distances: going over all arcs once a place.
-/
import Derived.Test.YthcgibpiogmmdaiDoorGrow
import Derived.Test.YthcgibpiogmmdaiDoorDist
import Derived.Test.YthcgibpiogmmdaiDoorAdd
import Derived.Test.YthcgibpiogmmdaiDoorLast
set_option linter.unusedVariables false
set_option linter.unusedSimpArgs false
namespace Go.Proofs.YthcgibpiogmmdaiDoor
open Go.RowKit Go.Maps
attribute [local go_sem ↓] Go.wp_at_zero Go.wp_at_succ

set_option maxRecDepth 100000 in
set_option maxHeartbeats 2000000 in
theorem l2Distances_any (p s : Nat) (ao : Option Addr) (n cap : Nat) (F T G : Nat → Int) (hp1 : 1 ≤ p) (hp2 : p ≤ 24) (hs : s < p) (hn : n ≤ 100) (hA : Arcs p n F T G) (w : World) (hr : Row w ao n F T G) :
    Calls Tryd.prog 19 #[.agg #[.int .i64 p, .slice ao n cap], .int .i64 s] w fun e w' => ∃ g cap', e = .returned (.slice (some ⟨g, 0, none⟩) p cap') ∧ w.heap.size ≤ g ∧ IHas w' g p (turns F T G n (start s) p) ∧ Below w.heap.size w w' := by
  have HA : Hid (Arcs p n F T G) := hA
  clear hA
  go_enter Tryd.func19, Tryd.ntmps19
  go_wp2
  go_loopw [5, 6] (fun d i wr => ∃ k g c : Nat, k ≤ p ∧ i = .int .i64 k ∧ d = .slice (some ⟨g, 0, none⟩) k c ∧ IOwn wr (w.heap.size + 1) g c k (fun _ => 1000000000000) ∧ Below (w.heap.size + 1) (w.alloc (.cells #[.int .i64 p, .slice ao n cap] 29)) wr) (fun _ i _ => p - (intOf i).toNat)
  case atStart => exact ⟨0, w.heap.size + 1, 0, Nat.zero_le _, rfl, rfl, by simpa using IOwn.empty (w.alloc (.cells #[.int .i64 p, .slice ao n cap] 29)) (base := w.heap.size + 1) (by simp) _, (Below.refl _ _).alloc (by simp) _⟩
  case round =>
    obtain ⟨k, g, c, hk, rfl, rfl, hown, hbel⟩ := hrel
    obtain ⟨g0, g1, hsz⟩ := box2 hbel
    have hgl := hown.lt
    have hgb := hown.base
    by_cases hlt : k < p
    · have hlt' : (k : Int) < (p : Int) := by omega
      go_wp2_with (at_builtin; refine wpList_append_int rfl _ _ rfl (w.heap.size + 1) g c k (fun _ => 1000000000000) rfl (by exact hown.below ((Below.refl _ _).alloc (Nat.le_refl _) _) (by omega)) ⟨wr.heap.size, 0, none⟩ 1 1000000000000 rfl (by simp [go_sem]) (by omega) (by simp; omega) ?_; intro g' c' w2 hown2 hgrow2 hat2)
      go_wp2
      go_roundw
      case rel => exact ⟨k + 1, g', c', by omega, by go_num, rfl, hown2 _ (fun _ _ => rfl) rfl, (hbel.alloc (by omega) _).grown hgrow2 (by simp; omega) (fun j hj => by cases hj; omega)⟩
      case measure => simp [intOf]; omega
    have hkp : k = p := by omega
    subst hkp
    have d0 := hown.has.cell hs
    have z0 := hown.has.frozen s
    have hs0 : (s : Int) < (k : Int) := by omega
    have R : IHas (wr.setCell ⟨g, s, none⟩ (.int .i64 0)) g k (start s) := (hown.has.set s 0).congr (fun j hj => by unfold start; rfl)
    have B := hbel.setCell (p := ⟨g, s, none⟩) hgb (.int .i64 0)
    clear hown
    go_wp2
    clear d0 z0 g0 g1
    go_loopw [7] (fun x wr2 => ∃ t : Nat, t ≤ k ∧ x = .int .i64 t ∧ IHas wr2 g k (turns F T G n (start s) t) ∧ Below (w.heap.size + 1) (w.alloc (.cells #[.int .i64 k, .slice ao n cap] 29)) wr2) (fun x _ => k - (intOf x).toNat)
    case atStart => exact ⟨0, Nat.zero_le _, rfl, R, B⟩
    case round =>
      obtain ⟨t, ht, rfl, hI, hB⟩ := hrel
      clear R B
      obtain ⟨g0, g1, hsz2⟩ := box2 hB
      by_cases hlt2 : t < k
      rotate_left
      · have htk : t = k := by omega
        subst htk
        go_wp2
        go_ret
        exact ⟨g, c, rfl, by omega, hI, unbox hB (by omega)⟩
      have hlt2' : (t : Int) < (k : Int) := by omega
      go_wp2
      go_loopw [8] (fun x wr3 => ∃ j : Nat, j ≤ n ∧ x = .int .i64 j ∧ IHas wr3 g k (turnTo F T G (turns F T G n (start s) t) j) ∧ Below (w.heap.size + 1) (w.alloc (.cells #[.int .i64 k, .slice ao n cap] 29)) wr3) (fun x _ => n - (intOf x).toNat)
      case atStart => exact ⟨0, Nat.zero_le _, rfl, hI, hB⟩
      case round =>
        obtain ⟨j, hj, rfl, hI3, hB3⟩ := hrel
        clear hI hB g0 g1
        obtain ⟨g0, g1, hsz3⟩ := box2 hB3
        by_cases hlt3 : j < n
        rotate_left
        · have hjn : j = n := by omega
          subst hjn
          go_wp2
          go_roundw
          case rel => exact ⟨t + 1, by omega, by go_num, hI3, hB3⟩
          case measure => simp [intOf]; omega
        obtain ⟨ab, aoff, hao, e0, e1, e2⟩ := ((hr.alloc _).below hB3 (by simp)) j hlt3
        subst hao
        have ha := HA.out j hlt3
        obtain ⟨tF, hF⟩ : ∃ tF : Nat, F j = (tF : Int) := ⟨(F j).toNat, by omega⟩
        obtain ⟨tT, hT⟩ : ∃ tT : Nat, T j = (tT : Int) := ⟨(T j).toNat, by omega⟩
        have l1 : tF < k := by omega
        have l2 : tT < k := by omega
        have x1 : (tF : Int) < (k : Int) := by omega
        have x2 : (tT : Int) < (k : Int) := by omega
        have w0 := hI3.cell l1
        have w1 := hI3.cell l2
        have z1 := hI3.frozen tT
        have b1 := hI3.frozen tF
        have PK : Hid (IHas wr g k (turnTo F T G (turns F T G n (start s) t) j) ∧ Below (w.heap.size + 1) (w.alloc (.cells #[.int .i64 k, .slice (some ⟨ab, aoff, none⟩) n cap] 29)) wr) := ⟨hI3, hB3⟩
        have hgl3 := hI3.lt
        have v0 : 0 ≤ turnTo F T G (turns F T G n (start s) t) j tF ∧ turnTo F T G (turns F T G n (start s) t) j tF ≤ 1000000000000 := mid_in HA.out s t j (by omega) tF
        have v1 : 0 ≤ G j ∧ G j ≤ 1000000000000 := by omega
        clear hI3 hB3 hr ha hbel hk hlt
        go_wp2
        refine wp_region_last_lit 18 (by kernel_rfl) (by rfl) (by rfl) (by rfl) (by kernel_rfl) (by kernel_rfl) (by kernel_rfl) (by rfl) ?_
        simp only [List.take_succ_cons, List.take_zero, List.cons_append, List.nil_append]
        repeat (go_big_quiet_step (first | exact Calls.quiet_of_same (l1Add_any _ _ v0.1 v0.2 v1.1 v1.2 _) | exact Calls.quiet_of_same (l1Min_any _ _ _)))
        refine wpQuiet_nil ?_
        intro w7 hw7
        obtain ⟨nq, rfl⟩ := hw7
        obtain ⟨hI3, hB3⟩ := PK.out
        have al := (Below.refl wr.heap.size wr).alloc (Nat.le_refl _) (.cells #[.int .i64 (tF : Int), .int .i64 (tT : Int), .int .i64 (G j)] 44)
        have hI6 := hI3.below al hI3.lt
        have hI7 := hI6.below (below_drewN (Below.refl _ _) nq) hI6.lt
        have hB7 := below_drewN (hB3.trans (al.mono (by omega))) nq
        clear PK hI3 hB3 al hI6 w0 w1 z1 b1 e0 e1 e2 g0 g1
        generalize (wr.alloc (.cells #[.int .i64 (tF : Int), .int .i64 (tT : Int), .int .i64 (G j)] 44)).drewN nq = W7 at hI7 hB7 ⊢
        have s0 := hI7.cell l2
        have s1 := hI7.frozen tT
        have R : IHas (W7.setCell ⟨g, tT, none⟩ (.int .i64 (min (turnTo F T G (turns F T G n (start s) t) j tT) (min 1000000000000 (turnTo F T G (turns F T G n (start s) t) j tF + G j))))) g k (turnTo F T G (turns F T G n (start s) t) (j + 1)) := (hI7.set tT _).congr (fun i hi => by
          have h1 : (T j).toNat = tT := by omega
          have h2 : (F j).toNat = tF := by omega
          show _ = relax F T G (turnTo F T G (turns F T G n (start s) t) j) j i
          unfold relax up1
          rw [h1, h2])
        have B := hB7.setCell (p := ⟨g, tT, none⟩) hgb (.int .i64 (min (turnTo F T G (turns F T G n (start s) t) j tT) (min 1000000000000 (turnTo F T G (turns F T G n (start s) t) j tF + G j))))
        clear hI7 hB7
        go_simp
        go_wp2
        go_roundw
        case rel => exact ⟨j + 1, by omega, by go_num, R, B⟩
        case measure => simp [intOf]; omega

end Go.Proofs.YthcgibpiogmmdaiDoor
