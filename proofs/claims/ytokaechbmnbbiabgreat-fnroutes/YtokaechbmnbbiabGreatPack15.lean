/-
  Helpers, merged: MtgA, RecS, ShE, LenImpl, DistSpec, DistD, FnBase.
-/
import Derived.Test.YtokaechbmnbbiabGreatPack14
import Derived.Test.YtokaechbmnbbiabGreatPack7
import Derived.Test.YtokaechbmnbbiabGreatPack11
import Derived.Test.YtokaechbmnbbiabGreatPack2
import Derived.Deep.QuietTactic
import Derived.Test.YtokaechbmnbbiabGreatPack13
import Derived.Test.YtokaechbmnbbiabGreatPack10
/-
  The meeting of two climbs, the program's.
-/
set_option linter.unusedVariables false
set_option linter.unusedSimpArgs false
namespace Go.Proofs.YtokaechbmnbbiabGreat
open Go.RowKit Go.Deep Go.Joins
attribute [local go_sem ↓] Go.wp_at_zero Go.wp_at_succ

structure PutA (w2 : World) (f : Nat → Int) (X : World) : Prop where
  has : AHas X w2.heap.size f
  bel : Below w2.heap.size w2 X
  siz : X.heap.size = w2.heap.size + 1
theorem putA_new (w2 : World) (f : Nat → Int) : PutA w2 f ((w2.alloc (.cells (arr fun _ => 0) 144)).setRow w2.heap.size (arr f)) :=
  ⟨(ahas_new w2).row f, setRow_below ((Below.refl _ _).alloc (Nat.le_refl _) _) (Nat.le_refl _) _, by simp⟩

set_option maxRecDepth 100000 in
set_option maxHeartbeats 4000000 in
theorem meet_any (po : Option Addr) (k pcap : Nat) (eo : Option Addr) (m ecap : Nat) (L H : Nat → Int) (uo : Option Addr) (u ucap : Nat) (U : Nat → Int) (vo : Option Addr) (v vcap : Nat) (V : Nat → Int) (a b : Int) (hk : k ≤ 1048576) (hm : m ≤ 1048576) (hu : u ≤ 1048576) (hv : v ≤ 1048576) (w : World) (he : ERow w eo m L H) (hU : IRow w uo u U) (hV : IRow w vo v V) :
    Calls Tryz.prog 68 #[.agg #[.slice po k pcap, .slice eo m ecap], .agg #[.slice uo u ucap, .slice vo v vcap], .int .i64 a, .int .i64 b] w fun e w' => e = .returned (.tuple #[.int .i64 (mtg k m L H u U v V a b).1, .int .i64 (mtg k m L H u U v V a b).2]) ∧ Below w.heap.size w w' := by
  have hB0 := ((Below.refl w.heap.size w).alloc (Nat.le_refl _) (.cells #[.slice po k pcap, .slice eo m ecap] 30)).alloc (by simp) (.cells #[.slice uo u ucap, .slice vo v vcap] 34)
  have q0 : ((w.alloc (.cells #[.slice po k pcap, .slice eo m ecap] 30)).alloc (.cells #[.slice uo u ucap, .slice vo v vcap] 34)).cell? ⟨w.heap.size, 0, none⟩ = some (.slice po k pcap) := by simp [go_sem]
  have q1 : ((w.alloc (.cells #[.slice po k pcap, .slice eo m ecap] 30)).alloc (.cells #[.slice uo u ucap, .slice vo v vcap] 34)).cell? ⟨w.heap.size, 1, none⟩ = some (.slice eo m ecap) := by simp [go_sem]
  have q2 : ((w.alloc (.cells #[.slice po k pcap, .slice eo m ecap] 30)).alloc (.cells #[.slice uo u ucap, .slice vo v vcap] 34)).cell? ⟨w.heap.size + 1, 0, none⟩ = some (.slice uo u ucap) := by simp [go_sem]
  have q3 : ((w.alloc (.cells #[.slice po k pcap, .slice eo m ecap] 30)).alloc (.cells #[.slice uo u ucap, .slice vo v vcap] 34)).cell? ⟨w.heap.size + 1, 1, none⟩ = some (.slice vo v vcap) := by simp [go_sem]
  by_cases h1 : TOld k m L H u U v V ∧ RIn k a
  rotate_left
  · rw [mtg_no (fun h => h1 ⟨h.1, h.2.1⟩)]
    have HN : Hid (¬ (TOld k m L H u U v V ∧ RIn k a)) := h1
    clear h1
    go_enter Tryz.func68, Tryz.ntmps68
    go_wp2_with fail
    refine (climbOk_any po k pcap eo m ecap L H uo u ucap U vo v vcap V a hk hm hu hv _ (he.below hB0 (Nat.le_refl _)) (hU.below hB0 (Nat.le_refl _)) (hV.below hB0 (Nat.le_refl _))).mono ?_
    rintro e w1 ⟨⟨b0, rfl, hb0⟩, hb1⟩
    obtain rfl : b0 = false := by
      cases b0
      · rfl
      · exact absurd (hb0.1 rfl) HN.out
    clear hb0
    go_wp2
    go_ret2
    exact ⟨rfl, below_next hB0 (Nat.le_refl _) hb1⟩
  by_cases h2 : RIn k b
  rotate_left
  · rw [mtg_no (fun h => h2 h.2.2)]
    have HN : Hid (¬ (TOld k m L H u U v V ∧ RIn k b)) := fun x => h2 x.2
    have HY : Hid (TOld k m L H u U v V ∧ RIn k a) := h1
    clear h1 h2
    go_enter Tryz.func68, Tryz.ntmps68
    go_wp2_with fail
    refine (climbOk_any po k pcap eo m ecap L H uo u ucap U vo v vcap V a hk hm hu hv _ (he.below hB0 (Nat.le_refl _)) (hU.below hB0 (Nat.le_refl _)) (hV.below hB0 (Nat.le_refl _))).mono ?_
    rintro e w1 ⟨⟨b0, rfl, hb0⟩, hb1⟩
    obtain rfl : b0 = true := hb0.2 HY.out
    clear hb0
    replace q0 := keep_cell hb1 (Nat.le_refl _) q0
    replace q1 := keep_cell hb1 (Nat.le_refl _) q1
    replace q2 := keep_cell hb1 (Nat.le_refl _) q2
    replace q3 := keep_cell hb1 (Nat.le_refl _) q3
    have hB1 := below_next hB0 (Nat.le_refl _) hb1
    clear hb1 hB0
    go_wp2_with fail
    refine (climbOk_any po k pcap eo m ecap L H uo u ucap U vo v vcap V b hk hm hu hv _ (he.below hB1 (Nat.le_refl _)) (hU.below hB1 (Nat.le_refl _)) (hV.below hB1 (Nat.le_refl _))).mono ?_
    rintro e w2 ⟨⟨b0, rfl, hb0⟩, hb2⟩
    obtain rfl : b0 = false := by
      cases b0
      · rfl
      · exact absurd (hb0.1 rfl) HN.out
    clear hb0
    go_wp2
    go_ret2
    exact ⟨rfl, below_next hB1 (Nat.le_refl _) hb2⟩
  have hT := h1.1
  obtain ⟨hk1, hk2⟩ := told_k hT
  obtain rfl : u = m := hT.2.1
  obtain rfl : v = u := hT.2.2.1
  have HT : Hid (TOld k v L H v U v V ∧ RIn k a ∧ RIn k b) := ⟨hT, h1.2, h2⟩
  rw [mtg_yes hT h1.2 h2]
  obtain ⟨ha0, ha1⟩ := h1.2
  obtain ⟨hb0, hb1⟩ := h2
  obtain ⟨an, rfl⟩ : ∃ an : Nat, a = (an : Int) := ⟨a.toNat, by omega⟩
  obtain ⟨bn, rfl⟩ : ∃ bn : Nat, b = (bn : Int) := ⟨b.toNat, by omega⟩
  rw [Int.toNat_natCast, Int.toNat_natCast]
  have HF : Hid (mt (cl L H U an v) (cl L H V bn v) 24 = mt (cl L H U an v) (cl L H V bn v) k) := by
    have := mt_far (A := cl L H U an v) (B := cl L H V bn v) (k := k) (cl_far (by omega) (fun i hi => by have := told_e hT i hi; omega) v (Nat.le_refl _)) (fun r => (cl_in bn hT.2.2.2.2 v (Nat.le_refl _) r).1) (24 - k)
    rwa [show k + (24 - k) = 24 by omega] at this
  rw [← HF.out]
  have HA : Hid (∀ j, 0 ≤ cl L H U an v j ∧ cl L H U an v j ≤ 1000000000000) := cl_in an hT.2.2.2.1 v (Nat.le_refl _)
  have HB : Hid (∀ j, 0 ≤ cl L H V bn v j ∧ cl L H V bn v j ≤ 1000000000000) := cl_in bn hT.2.2.2.2 v (Nat.le_refl _)
  clear h1 hT HF
  go_enter Tryz.func68, Tryz.ntmps68
  go_wp2_with fail
  refine (climbOk_any po k pcap eo v ecap L H uo v ucap U vo v vcap V an hk hm hu hv _ (he.below hB0 (Nat.le_refl _)) (hU.below hB0 (Nat.le_refl _)) (hV.below hB0 (Nat.le_refl _))).mono ?_
  rintro e w1 ⟨⟨b0, rfl, hb0⟩, hb1⟩
  obtain rfl : b0 = true := hb0.2 ⟨HT.out.1, HT.out.2.1⟩
  clear hb0
  replace q0 := keep_cell hb1 (Nat.le_refl _) q0
  replace q1 := keep_cell hb1 (Nat.le_refl _) q1
  replace q2 := keep_cell hb1 (Nat.le_refl _) q2
  replace q3 := keep_cell hb1 (Nat.le_refl _) q3
  have hB1 := below_next hB0 (Nat.le_refl _) hb1
  clear hb1 hB0
  go_wp2_with fail
  refine (climbOk_any po k pcap eo v ecap L H uo v ucap U vo v vcap V bn hk hm hu hv _ (he.below hB1 (Nat.le_refl _)) (hU.below hB1 (Nat.le_refl _)) (hV.below hB1 (Nat.le_refl _))).mono ?_
  rintro e w2 ⟨⟨b0, rfl, hb0⟩, hb2⟩
  obtain rfl : b0 = true := hb0.2 ⟨HT.out.1, HT.out.2.2⟩
  clear hb0
  replace q0 := keep_cell hb2 (Nat.le_refl _) q0
  replace q1 := keep_cell hb2 (Nat.le_refl _) q1
  replace q2 := keep_cell hb2 (Nat.le_refl _) q2
  replace q3 := keep_cell hb2 (Nat.le_refl _) q3
  have hB2 := below_next hB1 (Nat.le_refl _) hb2
  clear hb2 hB1
  go_wp2_with fail
  refine (sumsFrom_any eo k v ecap L H uo ucap U an (by omega) hk2 (told_e HT.out.1) HT.out.1.2.2.2.1 hm _ (he.below hB2 (Nat.le_refl _)) (hU.below hB2 (Nat.le_refl _))).mono ?_
  rintro e w3 ⟨rfl, hb3⟩
  replace q0 := keep_cell hb3 (Nat.le_refl _) q0
  replace q1 := keep_cell hb3 (Nat.le_refl _) q1
  replace q2 := keep_cell hb3 (Nat.le_refl _) q2
  replace q3 := keep_cell hb3 (Nat.le_refl _) q3
  have hB3 := below_next hB2 (Nat.le_refl _) hb3
  clear hb3 hB2
  have HQ : Hid (AHas (w3.alloc (.cells (arr fun _ => 0) 144)) w3.heap.size (fun _ => 0)) := ahas_new w3
  have PK : Hid (PutA w3 (cl L H U an v) ((w3.alloc (.cells (arr fun _ => 0) 144)).setRow w3.heap.size (arr (cl L H U an v)))) := putA_new _ _
  go_wp2_with (first | (refine wpList_store_row rfl 144 _ _ rfl w3.heap.size (arr (cl L H U an v)) rfl rfl 144 (arr (fun _ => 0)) HQ.out (Tryz.infoArr _) (by rw [arr_size, arr_size]) (arr_one _) ?_; generalize hX : World.setRow _ _ _ = X; have PK' : PutA w3 (cl L H U an v) X := (by rw [← hX]; exact PK.out); clear hX PK HQ; obtain ⟨a1, a2, a3⟩ := PK'; replace q0 := keep_cell a2 (Nat.le_refl _) q0; replace q1 := keep_cell a2 (Nat.le_refl _) q1; replace q2 := keep_cell a2 (Nat.le_refl _) q2; replace q3 := keep_cell a2 (Nat.le_refl _) q3; replace hB3 := below_next hB3 (Nat.le_refl _) a2; clear a2))
  refine (sumsFrom_any eo k v ecap L H vo vcap V bn (by omega) hk2 (told_e HT.out.1) HT.out.1.2.2.2.2 hm _ (he.below hB3 (Nat.le_refl _)) (hV.below hB3 (Nat.le_refl _))).mono ?_
  rintro e w4 ⟨rfl, hb4⟩
  have hB4 := below_next hB3 (Nat.le_refl _) hb4
  have A4 := a1.below hb4 a1.lt
  have hs4 := hb4.size
  clear hb4 hB3 q0 q1 q2 q3 a1
  have HQ : Hid (AHas (w4.alloc (.cells (arr fun _ => 0) 144)) w4.heap.size (fun _ => 0)) := ahas_new w4
  have PK : Hid (PutA w4 (cl L H V bn v) ((w4.alloc (.cells (arr fun _ => 0) 144)).setRow w4.heap.size (arr (cl L H V bn v)))) := putA_new _ _
  go_wp2_with (first | (refine wpList_store_row rfl 144 _ _ rfl w4.heap.size (arr (cl L H V bn v)) rfl rfl 144 (arr (fun _ => 0)) HQ.out (Tryz.infoArr _) (by rw [arr_size, arr_size]) (arr_one _) ?_; generalize hX : World.setRow _ _ _ = Y; have PK' : PutA w4 (cl L H V bn v) Y := (by rw [← hX]; exact PK.out); clear hX PK HQ; obtain ⟨c1, c2, c3⟩ := PK'; replace A4 := A4.below c2 A4.lt; replace hB4 := below_next hB4 (Nat.le_refl _) c2; clear c2))
  have HA4 : Hid (AHas Y w3.heap.size (cl L H U an v)) := A4
  have HC4 : Hid (AHas Y w4.heap.size (cl L H V bn v)) := c1
  clear A4 c1
  go_loopw [10, 11, 42] (fun x y z wr => ∃ i : Nat, i ≤ 24 ∧ z = .int .i64 i ∧ x = .int .i64 (mt (cl L H U an v) (cl L H V bn v) i).1 ∧ y = .int .i64 (mt (cl L H U an v) (cl L H V bn v) i).2 ∧ Below Y.heap.size Y wr) (fun _ _ z _ => 24 - (intOf z).toNat)
  case atStart => exact ⟨0, Nat.zero_le _, rfl, rfl, rfl, Below.refl _ _⟩
  case round =>
    obtain ⟨i, hi, rfl, rfl, rfl, hbel⟩ := hrel
    by_cases hlt : i < 24
    rotate_left
    · have e : i = 24 := by omega
      subst e
      go_wp2
      go_ret2
      exact ⟨rfl, below_next hB4 (Nat.le_refl _) hbel⟩
    have hlt' : (i : Int) < 24 := by omega
    have c0 := (HA4.out.below hbel HA4.out.lt).cell hlt
    have d0 := (HC4.out.below hbel HC4.out.lt).cell hlt
    have a0 := HA.out i
    have b0 := HB.out i
    obtain ⟨⟨p1, p2⟩, hp⟩ : ∃ p, mt (cl L H U an v) (cl L H V bn v) i = p := ⟨_, rfl⟩
    by_cases hs : min 1000000000000 (cl L H U an v i + cl L H V bn v i) < p2
    · have HY : Hid (mt (cl L H U an v) (cl L H V bn v) (i + 1) = ((i : Int), min 1000000000000 (cl L H U an v i + cl L H V bn v i))) := mt_yes hp hs
      rw [hp]
      clear hp
      go_wp2
      go_quiet (first | (go_at_call 80; refine Calls.quiet_of_same (plus_any _ _ a0.1 a0.2 b0.1 b0.2 _)))
      go_wp2
      go_roundw
      case rel => exact ⟨i + 1, by omega, by go_num, by rw [HY.out], by rw [HY.out], below_drewN hbel _⟩
      case measure => simp [intOf]; omega
    · have HY : Hid (mt (cl L H U an v) (cl L H V bn v) (i + 1) = (p1, p2)) := mt_no hp hs
      rw [hp]
      clear hp
      go_wp2
      go_quiet (first | (go_at_call 80; refine Calls.quiet_of_same (plus_any _ _ a0.1 a0.2 b0.1 b0.2 _)))
      go_wp2
      go_roundw
      case rel => exact ⟨i + 1, by omega, by go_num, by rw [HY.out], by rw [HY.out], below_drewN hbel _⟩
      case measure => simp [intOf]; omega

end Go.Proofs.YtokaechbmnbbiabGreat

/-
  Two metrics held against each other, the document's way.
-/
set_option linter.unusedVariables false
set_option linter.unusedSimpArgs false
namespace Go.Proofs.YtokaechbmnbbiabGreat
open Go.RowKit Go.Deep Go.Joins
attribute [local go_sem ↓] Go.wp_at_zero Go.wp_at_succ

set_option maxRecDepth 100000 in
set_option maxHeartbeats 2000000 in
theorem l5Same_any (ao : Option Addr) (n acap : Nat) (f : Nat → Int) (bo : Option Addr) (m bcap : Nat) (g : Nat → Int) (co : Option Addr) (u ccap : Nat) (f' : Nat → Int) (dO : Option Addr) (v dcap : Nat) (g' : Nat → Int) (hn : n ≤ 1048576) (hm : m ≤ 1048576) (hu : u ≤ 1048576) (hv : v ≤ 1048576) (w : World) (ha : IRow w ao n f) (hb : IRow w bo m g) (hc : IRow w co u f') (hd : IRow w dO v g') :
    Calls Tryz.prog 110 #[.agg #[.slice ao n acap, .slice bo m bcap], .agg #[.slice co u ccap, .slice dO v dcap]] w fun e w' => BAns e (SameI n u f f' ∧ SameI m v g g') ∧ Below w.heap.size w w' := by
  have hB0 : Below w.heap.size w ((w.alloc (.cells #[.slice ao n acap, .slice bo m bcap] 34)).alloc (.cells #[.slice co u ccap, .slice dO v dcap] 34)) := ((Below.refl _ w).alloc (Nat.le_refl _) _).alloc (by simp) _
  by_cases h1 : (n : Int) = (u : Int)
  rotate_left
  · have HN : Hid (¬ (SameI n u f f' ∧ SameI m v g g')) := fun x => h1 (by have := x.1.1; omega)
    go_enter Tryz.func110, Tryz.ntmps110
    go_wp2
    go_ret
    exact ⟨bans_no HN.out, hB0⟩
  by_cases h2 : (m : Int) = (v : Int)
  rotate_left
  · have HN : Hid (¬ (SameI n u f f' ∧ SameI m v g g')) := fun x => h2 (by have := x.2.1; omega)
    go_enter Tryz.func110, Tryz.ntmps110
    go_wp2
    go_ret
    exact ⟨bans_no HN.out, hB0⟩
  obtain rfl : n = u := by omega
  obtain rfl : m = v := by omega
  clear h1 h2
  have q0 : ((w.alloc (.cells #[.slice ao n acap, .slice bo m bcap] 34)).alloc (.cells #[.slice co n ccap, .slice dO m dcap] 34)).cell? ⟨w.heap.size, 0, none⟩ = some (.slice ao n acap) := by simp [go_sem]
  have q1 : ((w.alloc (.cells #[.slice ao n acap, .slice bo m bcap] 34)).alloc (.cells #[.slice co n ccap, .slice dO m dcap] 34)).cell? ⟨w.heap.size, 1, none⟩ = some (.slice bo m bcap) := by simp [go_sem]
  have q2 : ((w.alloc (.cells #[.slice ao n acap, .slice bo m bcap] 34)).alloc (.cells #[.slice co n ccap, .slice dO m dcap] 34)).cell? ⟨w.heap.size + 1, 0, none⟩ = some (.slice co n ccap) := by simp [go_sem]
  have q3 : ((w.alloc (.cells #[.slice ao n acap, .slice bo m bcap] 34)).alloc (.cells #[.slice co n ccap, .slice dO m dcap] 34)).cell? ⟨w.heap.size + 1, 1, none⟩ = some (.slice dO m dcap) := by simp [go_sem]
  go_enter Tryz.func110, Tryz.ntmps110
  go_wp2
  have HR : Hid (IRow w ao n f ∧ IRow w bo m g ∧ IRow w co n f' ∧ IRow w dO m g') := ⟨ha, hb, hc, hd⟩
  clear ha hb hc hd
  generalize (w.alloc (.cells #[.slice ao n acap, .slice bo m bcap] 34)).alloc (.cells #[.slice co n ccap, .slice dO m dcap] 34) = W0 at hB0 q0 q1 q2 q3 ⊢
  go_loopw [5] (fun x wr => ∃ j : Nat, j ≤ n ∧ x = .int .i64 j ∧ (∀ i, i < j → f i = f' i) ∧ Below W0.heap.size W0 wr) (fun x _ => n - (intOf x).toNat)
  case atStart => exact ⟨0, Nat.zero_le _, rfl, fun i hi => by omega, Below.refl _ _⟩
  case round =>
    obtain ⟨j, hj, rfl, hall, hbel⟩ := hrel
    have HA : Hid (∀ i, i < j → f i = f' i) := hall
    have p0 := keep_cell hbel (Nat.le_refl _) q0
    have p1 := keep_cell hbel (Nat.le_refl _) q1
    have p2 := keep_cell hbel (Nat.le_refl _) q2
    have p3 := keep_cell hbel (Nat.le_refl _) q3
    have hB1 := below_next hB0 (Nat.le_refl _) hbel
    clear hall
    by_cases hlt : j < n
    · clear q0 q1 q2 q3
      obtain ⟨b1, o1, e1, c1⟩ := (HR.out.1.below hB1 (Nat.le_refl _)) j hlt
      subst e1
      obtain ⟨b2, o2, e2, c2⟩ := (HR.out.2.2.1.below hB1 (Nat.le_refl _)) j hlt
      subst e2
      have hk1 : (0 : Int) ≤ (j : Int) := by omega
      have hk2 : (j : Int) < (n : Int) := by omega
      by_cases he : f j = f' j
      · have HE : Hid (f j = f' j) := he
        rw [← he] at c2
        clear he
        go_wp2
        (try go_quiet (fail))
        go_wp2
        go_roundw
        case rel => exact ⟨j + 1, by omega, by go_num, fun i hi => by
          by_cases x : i = j
          · subst x; exact HE.out
          · exact HA.out i (by omega), by first | exact below_drewN hbel _ | exact hbel⟩
        case measure => simp [intOf]; omega
      · have HN : Hid (¬ (SameI n n f f' ∧ SameI m m g g')) := fun x => he (x.1.2 j hlt)
        go_wp2
        (try go_quiet (fail))
        go_wp2
        go_ret
        exact ⟨bans_no HN.out, by first | exact below_drewN hB1 _ | exact hB1⟩
    have hjn : j = n := by omega
    subst hjn
    have HF : Hid (SameI j j f f') := ⟨rfl, HA.out⟩
    clear HA p0 p1 p2 p3
    have p0 := keep_cell hbel (Nat.le_refl _) q0
    have p1 := keep_cell hbel (Nat.le_refl _) q1
    go_wp2
    clear p0 p1
    go_loopw [6] (fun x wq => ∃ j2 : Nat, j2 ≤ m ∧ x = .int .i64 j2 ∧ (∀ i, i < j2 → g i = g' i) ∧ Below W0.heap.size W0 wq) (fun x _ => m - (intOf x).toNat)
    case atStart => exact ⟨0, Nat.zero_le _, rfl, fun i hi => by omega, hbel⟩
    case round =>
      clear hbel hB1
      obtain ⟨j2, hj2, rfl, hall, hbel⟩ := hrel
      have HA : Hid (∀ i, i < j2 → g i = g' i) := hall
      have p0 := keep_cell hbel (Nat.le_refl _) q0
      have p1 := keep_cell hbel (Nat.le_refl _) q1
      have p2 := keep_cell hbel (Nat.le_refl _) q2
      have p3 := keep_cell hbel (Nat.le_refl _) q3
      have hB1 := below_next hB0 (Nat.le_refl _) hbel
      clear hall q0 q1 q2 q3
      by_cases hlt2 : j2 < m
      · obtain ⟨b1, o1, e1, c1⟩ := (HR.out.2.1.below hB1 (Nat.le_refl _)) j2 hlt2
        subst e1
        obtain ⟨b2, o2, e2, c2⟩ := (HR.out.2.2.2.below hB1 (Nat.le_refl _)) j2 hlt2
        subst e2
        have hk1 : (0 : Int) ≤ (j2 : Int) := by omega
        have hk2 : (j2 : Int) < (m : Int) := by omega
        by_cases he : g j2 = g' j2
        · have HE : Hid (g j2 = g' j2) := he
          rw [← he] at c2
          clear he
          go_wp2
          (try go_quiet (fail))
          go_wp2
          go_roundw
          case rel => exact ⟨j2 + 1, by omega, by go_num, fun i hi => by
            by_cases x : i = j2
            · subst x; exact HE.out
            · exact HA.out i (by omega), by first | exact below_drewN hbel _ | exact hbel⟩
          case measure => simp [intOf]; omega
        · have HN : Hid (¬ (SameI j j f f' ∧ SameI m m g g')) := fun x => he (x.2.2 j2 hlt2)
          go_wp2
          (try go_quiet (fail))
          go_wp2
          go_ret
          exact ⟨bans_no HN.out, by first | exact below_drewN hB1 _ | exact hB1⟩
      have hjm : j2 = m := by omega
      subst hjm
      have HY : Hid (SameI j j f f' ∧ SameI j2 j2 g g') := ⟨HF.out, rfl, HA.out⟩
      go_wp2
      go_ret
      exact ⟨bans_yes HY.out, hB1⟩

end Go.Proofs.YtokaechbmnbbiabGreat

/-
  A right map has distances, plainly: the document's turns come to an end.
-/
set_option linter.unusedVariables false
set_option linter.unusedSimpArgs false
namespace Go.Proofs.YtokaechbmnbbiabGreat

structure Rch (n : Nat) (F T G : Nat → Int) (s : Nat) (d : Nat → Int) : Prop where
  zero : d s = 0
  lo : ∀ v, 0 ≤ d v
  hi : ∀ v, d v ≤ 1000000000000
  via : ∀ v, v ≠ s → d v < 1000000000000 → ∃ k, k < n ∧ (T k).toNat = v ∧ d (F k).toNat + G k ≤ d v
theorem rch_relax {p n : Nat} {F T G : Nat → Int} {s : Nat} {d : Nat → Int} (hA : Arcs p n F T G) (h : Rch n F T G s d) {k : Nat} (hk : k < n) : Rch n F T G s (relax F T G d k) := by
  have a := hA k hk
  have hle := relax_le F T G d k
  have ev : ∀ v, relax F T G d k v = if v = (T k).toNat then min (d (T k).toNat) (min 1000000000000 (d (F k).toNat + G k)) else d v := fun v => rfl
  have l1 := h.lo (F k).toNat
  refine ⟨?_, fun v => ?_, fun v => Int.le_trans (hle v) (h.hi v), fun v hv hf => ?_⟩
  · rw [ev]
    split
    · rename_i e
      rw [← e, h.zero]
      omega
    · exact h.zero
  · rw [ev]
    split
    · have := h.lo (T k).toNat; omega
    · exact h.lo v
  · by_cases e : v = (T k).toNat
    · by_cases q : relax F T G d k v = d v
      · rw [q] at hf ⊢
        obtain ⟨t, ht, e1, e2⟩ := h.via v hv hf
        have := hle (F t).toNat
        exact ⟨t, ht, e1, by omega⟩
      · refine ⟨k, hk, e.symm, ?_⟩
        have l2 := hle (F k).toNat
        rw [ev v, if_pos e] at q hf ⊢
        rw [e] at q
        omega
    · have q : relax F T G d k v = d v := by rw [ev, if_neg e]
      rw [q] at hf ⊢
      obtain ⟨t, ht, e1, e2⟩ := h.via v hv hf
      have := hle (F t).toNat
      exact ⟨t, ht, e1, by omega⟩
theorem rch_turnTo {p n : Nat} {F T G : Nat → Int} {s : Nat} {d : Nat → Int} (hA : Arcs p n F T G) (h : Rch n F T G s d) : ∀ k, k ≤ n → Rch n F T G s (turnTo F T G d k)
  | 0, _ => h
  | k + 1, hk => rch_relax hA (rch_turnTo hA h k (by omega)) (by omega)
theorem sumTo_nn {f : Nat → Int} (h : ∀ v, 0 ≤ f v) : ∀ n, 0 ≤ sumTo f n
  | 0 => Int.le_refl _
  | n + 1 => by simp only [sumTo]; have := sumTo_nn h n; have := h n; omega
theorem sumTo_lt {f g : Nat → Int} {v : Nat} (hl : ∀ j, f j ≤ g j) (hv : f v < g v) : ∀ n, v < n → sumTo f n < sumTo g n
  | 0, h => by omega
  | n + 1, h => by
    simp only [sumTo]
    by_cases e : v = n
    · subst e
      have := sumTo_le (f := f) (g := g) v (fun j _ => hl j)
      omega
    · have := sumTo_lt hl hv n (by omega)
      have := hl n
      omega
theorem sol_ex {p n : Nat} {F T G : Nat → Int} {s : Nat} (hA : Arcs p n F T G) : ∃ D, Sol p n F T G s D := by
  have main : ∀ B : Nat, ∀ d, Rch n F T G s d → (sumTo d p).toNat ≤ B → ∃ D, Sol p n F T G s D := by
    intro B
    induction B with
    | zero =>
      intro d h hB
      by_cases st : ∀ v, v < p → turnTo F T G d n v = d v
      · exact ⟨d, h.zero, fun v _ => h.lo v, fun v _ => h.hi v, fun k hk => by
          have := turnTo_at F T G d hk
          have a := hA k hk
          rw [st (T k).toNat (by omega)] at this
          exact this, fun v _ hv hf => h.via v hv hf⟩
      · obtain ⟨v, hv⟩ := Classical.not_forall.1 st
        obtain ⟨hv, hne⟩ := Classical.not_imp.1 hv
        have l := turnTo_le F T G d v n
        have h2 := rch_turnTo hA h n (Nat.le_refl _)
        have := sumTo_lt (f := turnTo F T G d n) (g := d) (v := v) (fun j => turnTo_le F T G d j n) (by omega) p hv
        have := sumTo_nn h2.lo p
        omega
    | succ B ih =>
      intro d h hB
      by_cases st : ∀ v, v < p → turnTo F T G d n v = d v
      · exact ⟨d, h.zero, fun v _ => h.lo v, fun v _ => h.hi v, fun k hk => by
          have := turnTo_at F T G d hk
          have a := hA k hk
          rw [st (T k).toNat (by omega)] at this
          exact this, fun v _ hv hf => h.via v hv hf⟩
      · obtain ⟨v, hv⟩ := Classical.not_forall.1 st
        obtain ⟨hv, hne⟩ := Classical.not_imp.1 hv
        have l := turnTo_le F T G d v n
        have h2 := rch_turnTo hA h n (Nat.le_refl _)
        have q := sumTo_lt (f := turnTo F T G d n) (g := d) (v := v) (fun j => turnTo_le F T G d j n) (by omega) p hv
        have := sumTo_nn h2.lo p
        exact ih _ h2 (by omega)
  refine main _ (start s) ⟨by simp [start], fun v => ?_, fun v => ?_, fun v hv hf => ?_⟩ (Nat.le_refl _)
  · unfold start; split <;> omega
  · unfold start; split <;> omega
  · unfold start at hf
    rw [if_neg hv] at hf
    omega

end Go.Proofs.YtokaechbmnbbiabGreat

/-
  The program's Length answers what the document's does.
-/
set_option linter.unusedVariables false
set_option linter.unusedSimpArgs false
namespace Go.Proofs.YtokaechbmnbbiabGreat
open Go.RowKit Go.Maps
attribute [local go_sem ↓] Go.wp_at_zero Go.wp_at_succ

def pathB (p : Int) (m : Nat) (P : Nat → Int) : Bool := decide (1 ≤ m) && (decide (m ≤ 200) && allIn p P m)

set_option maxHeartbeats 800000 in
theorem pathOk_any (p : Int) (po : Option Addr) (m pcap : Nat) (P : Nat → Int) (hm : m ≤ 1048576) (w : World) (hp : IRow w po m P) :
    Calls Tryz.prog 78 #[.slice po m pcap, .int .i64 p] w fun e w' => e = .returned (.bool (pathB p m P)) ∧ w' = w := by
  by_cases h1 : 1 ≤ m
  rotate_left
  · go_enter Tryz.func78, Tryz.ntmps78
    go_wp2
    go_ret
    exact ⟨ret_bool (by simp [pathB]; omega), rfl⟩
  by_cases h2 : m ≤ 200
  rotate_left
  · go_enter Tryz.func78, Tryz.ntmps78
    go_wp2
    go_ret
    exact ⟨ret_bool (by simp [pathB]; omega), rfl⟩
  go_enter Tryz.func78, Tryz.ntmps78
  go_wp2
  go_loop [17] (fun i => ∃ k : Nat, k ≤ m ∧ i = .int .i64 k ∧ Hid (allIn p P k = true)) (fun i => m - (intOf i).toNat)
  case atStart => exact ⟨0, Nat.zero_le _, rfl, rfl⟩
  case round =>
    obtain ⟨k, hk, rfl, hall⟩ := hrel
    by_cases hlt : k < m
    rotate_left
    · have hkn : k = m := by omega
      subst hkn
      go_wp2
      go_ret
      exact ⟨ret_bool (by simp [pathB, h1, h2, hall.out]), rfl⟩
    obtain ⟨b, o, hao, c0⟩ := hp k hlt
    subst hao
    rcases Bool.eq_false_or_eq_true (inB (P k) 0 (p - 1)) with ha | ha
    · go_wp2_with (go_at_call 66; refine (placeOk_any _ _ _).mono ?_; rintro e w1 ⟨rfl, rfl⟩)
      go_round
      case rel => exact ⟨k + 1, by omega, by go_num, by show allIn p P (k + 1) = true; simp [allIn, hall.out, ha]⟩
      case measure => simp [intOf]; omega
    · go_wp2_with (go_at_call 66; refine (placeOk_any _ _ _).mono ?_; rintro e w1 ⟨rfl, rfl⟩)
      go_ret
      exact ⟨ret_bool (by simp [pathB, allIn_no ha m hlt]), rfl⟩

set_option maxHeartbeats 1600000 in
theorem implLength_any (p : Int) (ao : Option Addr) (n cap : Nat) (F T G : Nat → Int) (po : Option Addr) (m pcap : Nat) (P : Nat → Int) (hn : n ≤ 1048576) (hm : m ≤ 1048576) (hcap : m ≤ pcap) (w : World) (hr : Row w ao n F T G) (hp : IRow w po m P) :
    Calls Tryz.prog 26 #[.agg #[.int .i64 p, .slice ao n cap], .slice po m pcap] w fun e w' => e = .returned (.int .i64 (lenOf p n F T G m P)) ∧ Below w.heap.size w w' := by
  rcases Bool.eq_false_or_eq_true (graphB p n F T G) with h | h
  rotate_left
  · go_enter Tryz.func26, Tryz.ntmps26
    go_wp2_with (first | (go_at_call 39; refine (implGraphOk_any p ao n cap F T G hn _ (hr.alloc _)).mono ?_; rintro e w1 ⟨rfl, hb1⟩))
    go_ret
    exact ⟨ret_i64 (lenOf_far (by simp [h])).symm, unbox hb1 (by simp)⟩
  rcases Bool.eq_false_or_eq_true (pathB p m P) with hpb | hpb
  rotate_left
  · go_enter Tryz.func26, Tryz.ntmps26
    go_wp2_with (first | (go_at_call 39; refine (implGraphOk_any p ao n cap F T G hn _ (hr.alloc _)).mono ?_; rintro e w1 ⟨rfl, hb1⟩; obtain ⟨hcc, hff⟩ := bcell hb1) | (go_at_call 78; refine (pathOk_any p po m pcap P hm _ ((hp.alloc _).below hb1 (Nat.le_refl _))).mono ?_; rintro e w2 ⟨rfl, rfl⟩))
    go_ret
    exact ⟨ret_i64 (lenOf_far (fun hh => by simp [pathB, hh.2.1, hh.2.2.1, hh.2.2.2] at hpb)).symm, unbox hb1 (by simp)⟩
  have hpb' : 1 ≤ m ∧ m ≤ 200 ∧ allIn p P m = true := by simpa [pathB] using hpb
  obtain ⟨h1, h2, hall0⟩ := hpb'
  have HALL : Hid (allIn p P m = true) := hall0
  clear hall0
  have harcs := (graphB_arcs h).2
  have hwf := wf_small (graphB_p h) harcs
  have hpp : 1 ≤ p ∧ p ≤ 24 := by simpa [inB] using graphB_p h
  obtain ⟨hp1, hp2⟩ := hpp
  have HA : Hid (arcsB p F T G n = true) := harcs
  have HGB : Hid (graphB p n F T G = true) := h
  clear harcs
  obtain ⟨pb, po', hpo, _⟩ := hp 0 (by omega)
  subst hpo
  have hm1 : (1 : Int) ≤ (m : Int) := by omega
  have hm2 : (m : Int) ≤ (pcap : Int) := by omega
  have hlen : lenOf p n F T G m P = ps n F T G P (m - 1) := by unfold lenOf; rw [if_pos ⟨HGB.out, h1, h2, HALL.out⟩]
  have HLEN : Hid (lenOf p n F T G m P = ps n F T G P (m - 1)) := hlen
  clear hlen
  by_cases hq1 : pcap = 1
  · have hmm : m = 1 := by omega
    subst hmm
    subst hq1
    go_enter Tryz.func26, Tryz.ntmps26
    go_wp2_with (first | (go_at_call 39; refine (implGraphOk_any p ao n cap F T G hn _ (hr.alloc _)).mono ?_; rintro e w1 ⟨rfl, hb1⟩; obtain ⟨hcc, hff⟩ := bcell hb1) | (go_at_call 78; refine (pathOk_any p _ _ _ P hm _ ((hp.alloc _).below hb1 (Nat.le_refl _))).mono ?_; rintro e wq ⟨rfl, hq⟩; have hq' := hq.symm; subst hq'; clear hq) | (go_at_call 79; refine (arcNumbers_any p ao n cap F T G hn hwf _ ((hr.alloc _).below hb1 (Nat.le_refl _))).mono ?_; rintro e w2 ⟨rfl, hown, hb2⟩))
    have hA := below_next (boxed hb1) (by simp) hb2
    clear hcc hff hb1 hb2
    go_loopw [6, 26] (fun q i wr => i = .int .i64 0 ∧ q = .int .i64 0 ∧ Below (w.heap.size + 1) (w.alloc (.cells #[.int .i64 p, .slice ao n cap] 26)) wr) (fun _ _ _ => 0)
    case atStart => exact ⟨rfl, rfl, hA⟩
    case round =>
      obtain ⟨rfl, rfl, hbel⟩ := hrel
      go_wp2
      go_ret
      exact ⟨ret_i64 HLEN.out.symm, unbox hbel (by omega)⟩
  have hq2 : ¬ pcap = 1 := hq1
  go_enter Tryz.func26, Tryz.ntmps26
  go_wp2_with (first | (go_at_call 39; refine (implGraphOk_any p ao n cap F T G hn _ (hr.alloc _)).mono ?_; rintro e w1 ⟨rfl, hb1⟩; obtain ⟨hcc, hff⟩ := bcell hb1) | (go_at_call 78; refine (pathOk_any p _ _ _ P hm _ ((hp.alloc _).below hb1 (Nat.le_refl _))).mono ?_; rintro e wq ⟨rfl, hq⟩; have hq' := hq.symm; subst hq'; clear hq) | (go_at_call 79; refine (arcNumbers_any p ao n cap F T G hn hwf _ ((hr.alloc _).below hb1 (Nat.le_refl _))).mono ?_; rintro e w2 ⟨rfl, hown, hb2⟩))
  have hA := below_next (boxed hb1) (by simp) hb2
  clear hcc hff hb1 hb2
  go_loopw [6, 26] (fun q i wr => ∃ k : Nat, k ≤ m - 1 ∧ i = .int .i64 k ∧ q = .int .i64 (ps n F T G P k) ∧ wr.ownsMap Tryz.prog 113 (plainElem Tryz.prog 3) (w1.heap.size + 1) n (nums F T n) ∧ Below (w.heap.size + 1) (w.alloc (.cells #[.int .i64 p, .slice ao n cap] 26)) wr) (fun _ i _ => (m - 1) - (intOf i).toNat)
  case atStart => exact ⟨0, Nat.zero_le _, rfl, rfl, hown, hA⟩
  case round =>
    obtain ⟨k, hk, rfl, rfl, hown, hbel⟩ := hrel
    obtain ⟨g0, g1, hsz⟩ := box2 hbel
    by_cases hlt : k < m - 1
    rotate_left
    · have hkn : k = m - 1 := by omega
      subst hkn
      go_wp2
      go_ret
      exact ⟨ret_i64 HLEN.out.symm, unbox hbel (by omega)⟩
    obtain ⟨pb1, po1, hpo1, c0⟩ := ((hp.alloc _).below hbel (by simp)) k (by omega)
    obtain ⟨pb2, po2, hpo2, c1⟩ := ((hp.alloc _).below hbel (by simp)) (k + 1) (by omega)
    simp only [Option.some.injEq, Addr.mk.injEq, and_true] at hpo1 hpo2
    obtain ⟨rfl, rfl⟩ := hpo1
    obtain ⟨rfl, rfl⟩ := hpo2
    have c1' : wr.cell? ⟨pb, po' + 1 + k, none⟩ = some (.int .i64 (P (k + 1))) := by rw [← c1]; congr 2; omega
    have hk1 : (k : Int) < (m : Int) := by omega
    have hi0 := allIn_each m HALL.out k (by omega)
    have hi1 := allIn_each m HALL.out (k + 1) (by omega)
    have ha : (Lit.int .i64 (P k)).wf = true := by simp [inB] at hi0; exact WalkArith.wf_i64 (by omega)
    have hc : (Lit.int .i64 (P (k + 1))).wf = true := by simp [inB] at hi1; exact WalkArith.wf_i64 (by omega)
    have hkey := key_ends (P k) (P (k + 1)) ha hc
    have hL := lastW_lo HA.out (P k) (P (k + 1)) n (Nat.le_refl _)
    have hS := ps_lo HA.out P k
    clear hi0 hi1
    rcases nums_look F T (P k) (P (k + 1)) ha hc n hwf with ⟨l1, l2⟩ | ⟨j, hj, l1, l2, l3, l4⟩
    · have L2 : Hid (∀ j, j < n → ¬ (F j = P k ∧ T j = P (k + 1))) := l2
      clear l2
      go_wp2_with (at_lookup; refine wpList_lookup_own_ok_int _ rfl _ _ 96 rfl 113 3 .i64 Tryz.keyLaw Tryz.underlying96 Tryz.underlying3 (Tryz.mapZero _) _ n _ rfl hown _ _ rfl hkey ?_; intro cc hat hwc)
      go_ret
      exact ⟨ret_i64 (by rw [HLEN.out, ps_far HA.out P (lastW_none n L2.out) (m - 1) hlt]), unbox hbel (by omega)⟩
    · have L4 : Hid ((nums F T n).atKey (kl (P k) (P (k + 1))) (.lit (.int .i64 0)) = .lit (.int .i64 (j : Int))) := l4
      have HE : Hid (lastW F T G (P k) (P (k + 1)) n = G j) := lastW_at n (fun j' hj' e1 e2 => unique HA.out hj' hj (e1.trans l1.symm) (e2.trans l2.symm)) hj l1 l2
      clear l1 l2 l4
      rw [HE.out] at hL
      obtain ⟨b, o, hao, d0, d1, d2⟩ := ((hr.alloc _).below hbel (by simp)) j hj
      subst hao
      go_wp2_with (first | (at_lookup; refine wpList_lookup_own_ok_int _ rfl _ _ 96 rfl 113 3 .i64 Tryz.keyLaw Tryz.underlying96 Tryz.underlying3 (Tryz.mapZero _) _ n _ rfl hown _ _ rfl hkey ?_; intro cc hat hwc; obtain rfl : cc = (j : Int) := by (rw [L4.out] at hat; simpa using hat.symm)) | (go_at_call 80; refine (plus_any _ _ hS.1 hS.2 hL.1 hL.2 _).mono ?_; rintro e w3 ⟨rfl, rfl⟩))
      go_roundw
      case rel => exact ⟨k + 1, by omega, by go_num, by show Value.int .i64 _ = Value.int .i64 (min 1000000000000 (ps n F T G P k + lastW F T G (P k) (P (k + 1)) n)); rw [HE.out], hown, hbel⟩
      case measure => simp [intOf]; omega

end Go.Proofs.YtokaechbmnbbiabGreat

/-
  The document's Distances: going over all arcs once a place.
-/
set_option linter.unusedVariables false
set_option linter.unusedSimpArgs false
namespace Go.Proofs.YtokaechbmnbbiabGreat
open Go.RowKit Go.Maps
attribute [local go_sem ↓] Go.wp_at_zero Go.wp_at_succ

set_option maxRecDepth 100000 in
set_option maxHeartbeats 2000000 in
theorem l2Distances_any (p s : Nat) (ao : Option Addr) (n cap : Nat) (F T G : Nat → Int) (hp1 : 1 ≤ p) (hp2 : p ≤ 24) (hs : s < p) (hn : n ≤ 100) (hA : Arcs p n F T G) (w : World) (hr : Row w ao n F T G) :
    Calls Tryz.prog 81 #[.agg #[.int .i64 p, .slice ao n cap], .int .i64 s] w fun e w' => ∃ g cap', e = .returned (.slice (some ⟨g, 0, none⟩) p cap') ∧ w.heap.size ≤ g ∧ IHas w' g p (turns F T G n (start s) p) ∧ Below w.heap.size w w' := by
  have HA : Hid (Arcs p n F T G) := hA
  clear hA
  go_enter Tryz.func81, Tryz.ntmps81
  go_wp2
  go_loopw [5, 6] (fun d i wr => ∃ k g c : Nat, k ≤ p ∧ i = .int .i64 k ∧ d = .slice (some ⟨g, 0, none⟩) k c ∧ IOwn wr (w.heap.size + 1) g c k (fun _ => 1000000000000) ∧ Below (w.heap.size + 1) (w.alloc (.cells #[.int .i64 p, .slice ao n cap] 26)) wr) (fun _ i _ => p - (intOf i).toNat)
  case atStart => exact ⟨0, w.heap.size + 1, 0, Nat.zero_le _, rfl, rfl, by simpa using IOwn.empty (w.alloc (.cells #[.int .i64 p, .slice ao n cap] 26)) (base := w.heap.size + 1) (by simp) _, (Below.refl _ _).alloc (by simp) _⟩
  case round =>
    obtain ⟨k, g, c, hk, rfl, rfl, hown, hbel⟩ := hrel
    obtain ⟨g0, g1, hsz⟩ := box2 hbel
    have hgl := hown.lt
    have hgb := hown.base
    by_cases hlt : k < p
    · have hlt' : (k : Int) < (p : Int) := by omega
      go_wp2_with (at_builtin; refine wpList_append_int rfl _ _ rfl (w.heap.size + 1) g c k (fun _ => 1000000000000) rfl (by exact hown.below ((Below.refl _ _).alloc (Nat.le_refl _) _) (by omega)) ⟨wr.heap.size, 0, none⟩ 1 1000000000000 rfl (by simp [go_sem]) (by omega) (by simp; omega) ?_; intro g' c' w2 hown2 hgrow2 hat2)
      go_wp2
      go_roundw
      case rel => exact ⟨k + 1, g', c', by omega, by go_num, rfl, hown2 _ (fun _ _ => rfl) rfl, (hbel.alloc (by omega) _).grown hgrow2 (by simp; omega) (fun j hj => by cases hj; omega)⟩
      case measure => simp [intOf]; omega
    have hkp : k = p := by omega
    subst hkp
    have d0 := hown.has.cell hs
    have z0 := hown.has.frozen s
    have hs0 : (s : Int) < (k : Int) := by omega
    have R : IHas (wr.setCell ⟨g, s, none⟩ (.int .i64 0)) g k (start s) := (hown.has.set s 0).congr (fun j hj => by unfold start; rfl)
    have B := hbel.setCell (p := ⟨g, s, none⟩) hgb (.int .i64 0)
    clear hown
    go_wp2
    clear d0 z0 g0 g1
    go_loopw [7] (fun x wr2 => ∃ t : Nat, t ≤ k ∧ x = .int .i64 t ∧ IHas wr2 g k (turns F T G n (start s) t) ∧ Below (w.heap.size + 1) (w.alloc (.cells #[.int .i64 k, .slice ao n cap] 26)) wr2) (fun x _ => k - (intOf x).toNat)
    case atStart => exact ⟨0, Nat.zero_le _, rfl, R, B⟩
    case round =>
      obtain ⟨t, ht, rfl, hI, hB⟩ := hrel
      clear R B
      obtain ⟨g0, g1, hsz2⟩ := box2 hB
      by_cases hlt2 : t < k
      rotate_left
      · have htk : t = k := by omega
        subst htk
        go_wp2
        go_ret
        exact ⟨g, c, rfl, by omega, hI, unbox hB (by omega)⟩
      have hlt2' : (t : Int) < (k : Int) := by omega
      go_wp2
      go_loopw [8] (fun x wr3 => ∃ j : Nat, j ≤ n ∧ x = .int .i64 j ∧ IHas wr3 g k (turnTo F T G (turns F T G n (start s) t) j) ∧ Below (w.heap.size + 1) (w.alloc (.cells #[.int .i64 k, .slice ao n cap] 26)) wr3) (fun x _ => n - (intOf x).toNat)
      case atStart => exact ⟨0, Nat.zero_le _, rfl, hI, hB⟩
      case round =>
        obtain ⟨j, hj, rfl, hI3, hB3⟩ := hrel
        clear hI hB g0 g1
        obtain ⟨g0, g1, hsz3⟩ := box2 hB3
        by_cases hlt3 : j < n
        rotate_left
        · have hjn : j = n := by omega
          subst hjn
          go_wp2
          go_roundw
          case rel => exact ⟨t + 1, by omega, by go_num, hI3, hB3⟩
          case measure => simp [intOf]; omega
        obtain ⟨ab, aoff, hao, e0, e1, e2⟩ := ((hr.alloc _).below hB3 (by simp)) j hlt3
        subst hao
        have ha := HA.out j hlt3
        obtain ⟨tF, hF⟩ : ∃ tF : Nat, F j = (tF : Int) := ⟨(F j).toNat, by omega⟩
        obtain ⟨tT, hT⟩ : ∃ tT : Nat, T j = (tT : Int) := ⟨(T j).toNat, by omega⟩
        have l1 : tF < k := by omega
        have l2 : tT < k := by omega
        have x1 : (tF : Int) < (k : Int) := by omega
        have x2 : (tT : Int) < (k : Int) := by omega
        have w0 := hI3.cell l1
        have w1 := hI3.cell l2
        have z1 := hI3.frozen tT
        have b1 := hI3.frozen tF
        have PK : Hid (IHas wr g k (turnTo F T G (turns F T G n (start s) t) j) ∧ Below (w.heap.size + 1) (w.alloc (.cells #[.int .i64 k, .slice (some ⟨ab, aoff, none⟩) n cap] 26)) wr) := ⟨hI3, hB3⟩
        have hgl3 := hI3.lt
        have v0 : 0 ≤ turnTo F T G (turns F T G n (start s) t) j tF ∧ turnTo F T G (turns F T G n (start s) t) j tF ≤ 1000000000000 := mid_in HA.out s t j (by omega) tF
        have v1 : 0 ≤ G j ∧ G j ≤ 1000000000000 := by omega
        clear hI3 hB3 hr ha hbel hk hlt
        go_wp2
        refine wp_region_last_lit 18 (by kernel_rfl) (by rfl) (by rfl) (by rfl) (by kernel_rfl) (by kernel_rfl) (by kernel_rfl) (by rfl) ?_
        simp only [List.take_succ_cons, List.take_zero, List.cons_append, List.nil_append]
        repeat (go_big_quiet_step (first | exact Calls.quiet_of_same (l1Add_any _ _ v0.1 v0.2 v1.1 v1.2 _) | exact Calls.quiet_of_same (l1Min_any _ _ _)))
        refine wpQuiet_nil ?_
        intro w7 hw7
        obtain ⟨nq, rfl⟩ := hw7
        obtain ⟨hI3, hB3⟩ := PK.out
        have al := (Below.refl wr.heap.size wr).alloc (Nat.le_refl _) (.cells #[.int .i64 (tF : Int), .int .i64 (tT : Int), .int .i64 (G j)] 115)
        have hI6 := hI3.below al hI3.lt
        have hI7 := hI6.below (below_drewN (Below.refl _ _) nq) hI6.lt
        have hB7 := below_drewN (hB3.trans (al.mono (by omega))) nq
        clear PK hI3 hB3 al hI6 w0 w1 z1 b1 e0 e1 e2 g0 g1
        generalize (wr.alloc (.cells #[.int .i64 (tF : Int), .int .i64 (tT : Int), .int .i64 (G j)] 115)).drewN nq = W7 at hI7 hB7 ⊢
        have s0 := hI7.cell l2
        have s1 := hI7.frozen tT
        have R : IHas (W7.setCell ⟨g, tT, none⟩ (.int .i64 (min (turnTo F T G (turns F T G n (start s) t) j tT) (min 1000000000000 (turnTo F T G (turns F T G n (start s) t) j tF + G j))))) g k (turnTo F T G (turns F T G n (start s) t) (j + 1)) := (hI7.set tT _).congr (fun i hi => by
          have h1 : (T j).toNat = tT := by omega
          have h2 : (F j).toNat = tF := by omega
          show _ = relax F T G (turnTo F T G (turns F T G n (start s) t) j) j i
          unfold relax up1
          rw [h1, h2])
        have B := hB7.setCell (p := ⟨g, tT, none⟩) hgb (.int .i64 (min (turnTo F T G (turns F T G n (start s) t) j tT) (min 1000000000000 (turnTo F T G (turns F T G n (start s) t) j tF + G j))))
        clear hI7 hB7
        go_simp
        go_wp2
        go_roundw
        case rel => exact ⟨j + 1, by omega, by go_num, R, B⟩
        case measure => simp [intOf]; omega

end Go.Proofs.YtokaechbmnbbiabGreat

/-
  Distances, the document's, at every map and every start.
-/
set_option linter.unusedVariables false
set_option linter.unusedSimpArgs false
namespace Go.Proofs.YtokaechbmnbbiabGreat
open Go.RowKit Go.Maps
attribute [local go_sem ↓] Go.wp_at_zero Go.wp_at_succ

def okD (p : Int) (n : Nat) (F T G : Nat → Int) (s : Int) : Bool := graphB p n F T G && inB s 0 (p - 1)
def lenD (p : Int) (n : Nat) (F T G : Nat → Int) (s : Int) : Nat := if okD p n F T G s then p.toNat else 0
def listD (p : Int) (n : Nat) (F T G : Nat → Int) (s : Int) : Nat → Int := turns F T G n (start s.toNat) p.toNat
theorem arcs_of {pn n : Nat} {F T G : Nat → Int} (h : arcsB (pn : Int) F T G n = true) : Arcs pn n F T G := fun k hk => by
  have := (arcsB_each n h k hk).1
  simp [arcB, inB] at this
  omega
set_option maxHeartbeats 1000000 in
theorem specDistances_any (p : Int) (ao : Option Addr) (n cap : Nat) (F T G : Nat → Int) (s : Int) (hn : n ≤ 1048576) (w : World) (hr : Row w ao n F T G) :
    Calls Tryz.prog 27 #[.agg #[.int .i64 p, .slice ao n cap], .int .i64 s] w fun e w' => Ans w w' e (lenD p n F T G s) (listD p n F T G s) := by
  rcases Bool.eq_false_or_eq_true (graphB p n F T G) with h | h
  rotate_left
  · have hL : lenD p n F T G s = 0 := by simp [lenD, okD, h]
    rw [hL]
    go_enter Tryz.func27, Tryz.ntmps27
    go_wp2_with (go_at_call 41; refine (specGraphOk_any p ao n cap F T G hn _ (hr.alloc _)).mono ?_; rintro e w1 ⟨rfl, hb1⟩)
    go_ret
    exact ⟨_, _, rfl, fun h => by omega, unbox (hb1.alloc (by have := hb1.size; omega) _) (by simp)⟩
  have hpp : 1 ≤ p ∧ p ≤ 24 := by simpa [inB] using graphB_p h
  obtain ⟨hp1, hp2⟩ := hpp
  rcases Bool.eq_false_or_eq_true (inB s 0 (p - 1)) with h2 | h2
  rotate_left
  · have hL : lenD p n F T G s = 0 := by simp [lenD, okD, h2]
    rw [hL]
    go_enter Tryz.func27, Tryz.ntmps27
    go_wp2_with (first | (go_at_call 41; refine (specGraphOk_any p ao n cap F T G hn _ (hr.alloc _)).mono ?_; rintro e w1 ⟨rfl, hb1⟩; obtain ⟨hc, hf⟩ := bcell hb1) | (go_at_call 53; refine (l1In_any _ _ _ _).mono ?_; rintro e wq ⟨rfl, hq⟩; have hq' := hq.symm; subst hq'; clear hq))
    go_ret
    exact ⟨_, _, rfl, fun h => by omega, unbox (hb1.alloc (by have := hb1.size; omega) _) (by simp)⟩
  have hs0 : 0 ≤ s ∧ s ≤ p - 1 := by simpa [inB] using h2
  obtain ⟨pn, rfl⟩ : ∃ pn : Nat, p = (pn : Int) := ⟨p.toNat, by omega⟩
  obtain ⟨sn, rfl⟩ : ∃ sn : Nat, s = (sn : Int) := ⟨s.toNat, by omega⟩
  have hL : lenD pn n F T G sn = pn := by simp [lenD, okD, h, h2]
  have hD : listD pn n F T G sn = turns F T G n (start sn) pn := by simp [listD]
  rw [hL, hD]
  have harc := arcs_of (graphB_arcs h).2
  have hn1 := (graphB_arcs h).1
  clear hL hD
  go_enter Tryz.func27, Tryz.ntmps27
  go_wp2_with (first | (go_at_call 41; refine (specGraphOk_any pn ao n cap F T G hn _ (hr.alloc _)).mono ?_; rintro e w1 ⟨rfl, hb1⟩; obtain ⟨hc, hf⟩ := bcell hb1) | (go_at_call 53; refine (l1In_any _ _ _ _).mono ?_; rintro e wq ⟨rfl, hq⟩; have hq' := hq.symm; subst hq'; clear hq) | (go_at_call 81; refine (l2Distances_any pn sn ao n cap F T G (by omega) (by omega) (by omega) hn1 harc _ ((hr.alloc _).below hb1 (Nat.le_refl _))).mono ?_; rintro e w2 ⟨g, c, rfl, hg, hI, hb2⟩))
  go_ret
  exact ⟨_, _, rfl, fun _ => ⟨g, rfl, by have := hb1.size; simp at this; omega, hI⟩, unbox (below_next hb1 (Nat.le_refl _) hb2) (by simp)⟩

end Go.Proofs.YtokaechbmnbbiabGreat

/-
  What the laws over drawn inputs call: their helpers, and the bytes that came in.
-/
set_option linter.unusedVariables false
set_option linter.unusedSimpArgs false
namespace Go.Proofs.YtokaechbmnbbiabGreat
open Go.ChangeShapes Go.WideShapes Go.ChangeAt Go.RowKit Go.Deep Go.Joins
attribute [local go_sem ↓] Go.wp_at_zero Go.wp_at_succ

set_option maxHeartbeats 800000 in
theorem likeInts_same (ao ao' : Option Addr) (n cap cap' : Nat) (f : Nat → Int) (hn : n ≤ 1048576) (w : World) (hr : IRow w ao n f) (hr' : IRow w ao' n f) :
    Calls Tryz.prog 25 #[.slice ao n cap, .slice ao' n cap'] w fun e w' => e = .returned (.bool true) ∧ Below w.heap.size w w' := by
  go_enter Tryz.func25, Tryz.ntmps25
  go_wp2
  go_loopw [5] (fun i wr => ∃ k : Nat, k ≤ n ∧ i = .int .i64 k ∧ Below w.heap.size w wr) (fun i _ => n - (intOf i).toNat)
  case atStart => exact ⟨0, Nat.zero_le _, rfl, Below.refl _ _⟩
  case round =>
    obtain ⟨k, hk, rfl, hbel⟩ := hrel
    by_cases hlt : k < n
    rotate_left
    · have hkn : k = n := by omega
      subst hkn
      go_wp2
      go_ret
      exact ⟨rfl, hbel⟩
    obtain ⟨b, o, hao, c0⟩ := (hr.below hbel (Nat.le_refl _)) k hlt
    obtain ⟨b', o', hao', d0⟩ := (hr'.below hbel (Nat.le_refl _)) k hlt
    subst hao
    subst hao'
    have hk1 : (0 : Int) ≤ (k : Int) := by omega
    have hk2 : (k : Int) < (n : Int) := by omega
    go_wp2
    go_quiet (fail)
    go_wp2
    go_roundw
    case rel => exact ⟨k + 1, by omega, by go_num, below_drewN hbel _⟩
    case measure => simp [intOf]; omega


end Go.Proofs.YtokaechbmnbbiabGreat
