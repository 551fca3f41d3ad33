/-
  Meeting and Distance, the program's, at every hierarchy and every metric.
-/
import Derived.Test.YtoklneimebhjdabClmIP
import Derived.Test.YtoklneimebhjdabMtgSQ
import Derived.Test.YtoklneimebhjdabPack6
set_option linter.unusedVariables false
set_option linter.unusedSimpArgs false
namespace Go.Proofs.Ytoklneimebhjdab
open Go.RowKit Go.Deep Go.Joins
attribute [local go_sem ↓] Go.wp_at_zero Go.wp_at_succ

/-- Sums in a new block. -/
structure PutA (w2 : World) (f : Nat → Int) (X : World) : Prop where
  has : AHas X w2.heap.size f
  bel : Below w2.heap.size w2 X
  siz : X.heap.size = w2.heap.size + 1
theorem putA_new (w2 : World) (f : Nat → Int) : PutA w2 f ((w2.alloc (.cells (arr fun _ => 0) 76)).setRow w2.heap.size (arr f)) :=
  ⟨(ahas_new w2).row f, setRow_below ((Below.refl _ _).alloc (Nat.le_refl _) _) (Nat.le_refl _) _, by simp⟩

set_option maxRecDepth 100000 in
set_option maxHeartbeats 4000000 in
theorem meet_any (po : Option Addr) (k pcap : Nat) (eo : Option Addr) (m ecap : Nat) (L H : Nat → Int) (uo : Option Addr) (u ucap : Nat) (U : Nat → Int) (vo : Option Addr) (v vcap : Nat) (V : Nat → Int) (a b : Int) (hk : k ≤ 1048576) (hm : m ≤ 1048576) (hu : u ≤ 1048576) (hv : v ≤ 1048576) (w : World) (he : ERow w eo m L H) (hU : IRow w uo u U) (hV : IRow w vo v V) :
    Calls Try.prog 44 #[.agg #[.slice po k pcap, .slice eo m ecap], .agg #[.slice uo u ucap, .slice vo v vcap], .int .i64 a, .int .i64 b] w fun e w' => e = .returned (.tuple #[.int .i64 (mtg k m L H u U v V a b).1, .int .i64 (mtg k m L H u U v V a b).2]) ∧ Below w.heap.size w w' := by
  have hB0 := ((Below.refl w.heap.size w).alloc (Nat.le_refl _) (.cells #[.slice po k pcap, .slice eo m ecap] 40)).alloc (by simp) (.cells #[.slice uo u ucap, .slice vo v vcap] 42)
  have q0 : ((w.alloc (.cells #[.slice po k pcap, .slice eo m ecap] 40)).alloc (.cells #[.slice uo u ucap, .slice vo v vcap] 42)).cell? ⟨w.heap.size, 0, none⟩ = some (.slice po k pcap) := by simp [go_sem]
  have q1 : ((w.alloc (.cells #[.slice po k pcap, .slice eo m ecap] 40)).alloc (.cells #[.slice uo u ucap, .slice vo v vcap] 42)).cell? ⟨w.heap.size, 1, none⟩ = some (.slice eo m ecap) := by simp [go_sem]
  have q2 : ((w.alloc (.cells #[.slice po k pcap, .slice eo m ecap] 40)).alloc (.cells #[.slice uo u ucap, .slice vo v vcap] 42)).cell? ⟨w.heap.size + 1, 0, none⟩ = some (.slice uo u ucap) := by simp [go_sem]
  have q3 : ((w.alloc (.cells #[.slice po k pcap, .slice eo m ecap] 40)).alloc (.cells #[.slice uo u ucap, .slice vo v vcap] 42)).cell? ⟨w.heap.size + 1, 1, none⟩ = some (.slice vo v vcap) := by simp [go_sem]
  by_cases h1 : TOld k m L H u U v V ∧ RIn k a
  rotate_left
  · rw [mtg_no (fun h => h1 ⟨h.1, h.2.1⟩)]
    have HN : Hid (¬ (TOld k m L H u U v V ∧ RIn k a)) := h1
    clear h1
    go_enter Try.func44, Try.ntmps44
    go_wp2_with fail
    refine (climbOk_any po k pcap eo m ecap L H uo u ucap U vo v vcap V a hk hm hu hv _ (he.below hB0 (Nat.le_refl _)) (hU.below hB0 (Nat.le_refl _)) (hV.below hB0 (Nat.le_refl _))).mono ?_
    rintro e w1 ⟨⟨b0, rfl, hb0⟩, hb1⟩
    obtain rfl : b0 = false := by
      cases b0
      · rfl
      · exact absurd (hb0.1 rfl) HN.out
    clear hb0
    go_wp2
    go_ret2
    exact ⟨rfl, below_next hB0 (Nat.le_refl _) hb1⟩
  by_cases h2 : RIn k b
  rotate_left
  · rw [mtg_no (fun h => h2 h.2.2)]
    have HN : Hid (¬ (TOld k m L H u U v V ∧ RIn k b)) := fun x => h2 x.2
    have HY : Hid (TOld k m L H u U v V ∧ RIn k a) := h1
    clear h1 h2
    go_enter Try.func44, Try.ntmps44
    go_wp2_with fail
    refine (climbOk_any po k pcap eo m ecap L H uo u ucap U vo v vcap V a hk hm hu hv _ (he.below hB0 (Nat.le_refl _)) (hU.below hB0 (Nat.le_refl _)) (hV.below hB0 (Nat.le_refl _))).mono ?_
    rintro e w1 ⟨⟨b0, rfl, hb0⟩, hb1⟩
    obtain rfl : b0 = true := hb0.2 HY.out
    clear hb0
    replace q0 := keep_cell hb1 (Nat.le_refl _) q0
    replace q1 := keep_cell hb1 (Nat.le_refl _) q1
    replace q2 := keep_cell hb1 (Nat.le_refl _) q2
    replace q3 := keep_cell hb1 (Nat.le_refl _) q3
    have hB1 := below_next hB0 (Nat.le_refl _) hb1
    clear hb1 hB0
    go_wp2_with fail
    refine (climbOk_any po k pcap eo m ecap L H uo u ucap U vo v vcap V b hk hm hu hv _ (he.below hB1 (Nat.le_refl _)) (hU.below hB1 (Nat.le_refl _)) (hV.below hB1 (Nat.le_refl _))).mono ?_
    rintro e w2 ⟨⟨b0, rfl, hb0⟩, hb2⟩
    obtain rfl : b0 = false := by
      cases b0
      · rfl
      · exact absurd (hb0.1 rfl) HN.out
    clear hb0
    go_wp2
    go_ret2
    exact ⟨rfl, below_next hB1 (Nat.le_refl _) hb2⟩
  have hT := h1.1
  obtain ⟨hk1, hk2⟩ := told_k hT
  obtain rfl : u = m := hT.2.1
  obtain rfl : v = u := hT.2.2.1
  have HT : Hid (TOld k v L H v U v V ∧ RIn k a ∧ RIn k b) := ⟨hT, h1.2, h2⟩
  rw [mtg_yes hT h1.2 h2]
  obtain ⟨ha0, ha1⟩ := h1.2
  obtain ⟨hb0, hb1⟩ := h2
  obtain ⟨an, rfl⟩ : ∃ an : Nat, a = (an : Int) := ⟨a.toNat, by omega⟩
  obtain ⟨bn, rfl⟩ : ∃ bn : Nat, b = (bn : Int) := ⟨b.toNat, by omega⟩
  rw [Int.toNat_natCast, Int.toNat_natCast]
  have HF : Hid (mt (cl L H U an v) (cl L H V bn v) 24 = mt (cl L H U an v) (cl L H V bn v) k) := by
    have := mt_far (A := cl L H U an v) (B := cl L H V bn v) (k := k) (cl_far (by omega) (fun i hi => by have := told_e hT i hi; omega) v (Nat.le_refl _)) (fun r => (cl_in bn hT.2.2.2.2 v (Nat.le_refl _) r).1) (24 - k)
    rwa [show k + (24 - k) = 24 by omega] at this
  rw [← HF.out]
  have HA : Hid (∀ j, 0 ≤ cl L H U an v j ∧ cl L H U an v j ≤ 1000000000000) := cl_in an hT.2.2.2.1 v (Nat.le_refl _)
  have HB : Hid (∀ j, 0 ≤ cl L H V bn v j ∧ cl L H V bn v j ≤ 1000000000000) := cl_in bn hT.2.2.2.2 v (Nat.le_refl _)
  clear h1 hT HF
  go_enter Try.func44, Try.ntmps44
  go_wp2_with fail
  refine (climbOk_any po k pcap eo v ecap L H uo v ucap U vo v vcap V an hk hm hu hv _ (he.below hB0 (Nat.le_refl _)) (hU.below hB0 (Nat.le_refl _)) (hV.below hB0 (Nat.le_refl _))).mono ?_
  rintro e w1 ⟨⟨b0, rfl, hb0⟩, hb1⟩
  obtain rfl : b0 = true := hb0.2 ⟨HT.out.1, HT.out.2.1⟩
  clear hb0
  replace q0 := keep_cell hb1 (Nat.le_refl _) q0
  replace q1 := keep_cell hb1 (Nat.le_refl _) q1
  replace q2 := keep_cell hb1 (Nat.le_refl _) q2
  replace q3 := keep_cell hb1 (Nat.le_refl _) q3
  have hB1 := below_next hB0 (Nat.le_refl _) hb1
  clear hb1 hB0
  go_wp2_with fail
  refine (climbOk_any po k pcap eo v ecap L H uo v ucap U vo v vcap V bn hk hm hu hv _ (he.below hB1 (Nat.le_refl _)) (hU.below hB1 (Nat.le_refl _)) (hV.below hB1 (Nat.le_refl _))).mono ?_
  rintro e w2 ⟨⟨b0, rfl, hb0⟩, hb2⟩
  obtain rfl : b0 = true := hb0.2 ⟨HT.out.1, HT.out.2.2⟩
  clear hb0
  replace q0 := keep_cell hb2 (Nat.le_refl _) q0
  replace q1 := keep_cell hb2 (Nat.le_refl _) q1
  replace q2 := keep_cell hb2 (Nat.le_refl _) q2
  replace q3 := keep_cell hb2 (Nat.le_refl _) q3
  have hB2 := below_next hB1 (Nat.le_refl _) hb2
  clear hb2 hB1
  go_wp2_with fail
  refine (sumsFrom_any eo k v ecap L H uo ucap U an (by omega) hk2 (told_e HT.out.1) HT.out.1.2.2.2.1 hm _ (he.below hB2 (Nat.le_refl _)) (hU.below hB2 (Nat.le_refl _))).mono ?_
  rintro e w3 ⟨rfl, hb3⟩
  replace q0 := keep_cell hb3 (Nat.le_refl _) q0
  replace q1 := keep_cell hb3 (Nat.le_refl _) q1
  replace q2 := keep_cell hb3 (Nat.le_refl _) q2
  replace q3 := keep_cell hb3 (Nat.le_refl _) q3
  have hB3 := below_next hB2 (Nat.le_refl _) hb3
  clear hb3 hB2
  have HQ : Hid (AHas (w3.alloc (.cells (arr fun _ => 0) 76)) w3.heap.size (fun _ => 0)) := ahas_new w3
  have PK : Hid (PutA w3 (cl L H U an v) ((w3.alloc (.cells (arr fun _ => 0) 76)).setRow w3.heap.size (arr (cl L H U an v)))) := putA_new _ _
  go_wp2_with (first | (refine wpList_store_row rfl 76 _ _ rfl w3.heap.size (arr (cl L H U an v)) rfl rfl 76 (arr (fun _ => 0)) HQ.out (Try.infoArr _) (by rw [arr_size, arr_size]) (arr_one _) ?_; generalize hX : World.setRow _ _ _ = X; have PK' : PutA w3 (cl L H U an v) X := (by rw [← hX]; exact PK.out); clear hX PK HQ; obtain ⟨a1, a2, a3⟩ := PK'; replace q0 := keep_cell a2 (Nat.le_refl _) q0; replace q1 := keep_cell a2 (Nat.le_refl _) q1; replace q2 := keep_cell a2 (Nat.le_refl _) q2; replace q3 := keep_cell a2 (Nat.le_refl _) q3; replace hB3 := below_next hB3 (Nat.le_refl _) a2; clear a2))
  refine (sumsFrom_any eo k v ecap L H vo vcap V bn (by omega) hk2 (told_e HT.out.1) HT.out.1.2.2.2.2 hm _ (he.below hB3 (Nat.le_refl _)) (hV.below hB3 (Nat.le_refl _))).mono ?_
  rintro e w4 ⟨rfl, hb4⟩
  have hB4 := below_next hB3 (Nat.le_refl _) hb4
  have A4 := a1.below hb4 a1.lt
  have hs4 := hb4.size
  clear hb4 hB3 q0 q1 q2 q3 a1
  have HQ : Hid (AHas (w4.alloc (.cells (arr fun _ => 0) 76)) w4.heap.size (fun _ => 0)) := ahas_new w4
  have PK : Hid (PutA w4 (cl L H V bn v) ((w4.alloc (.cells (arr fun _ => 0) 76)).setRow w4.heap.size (arr (cl L H V bn v)))) := putA_new _ _
  go_wp2_with (first | (refine wpList_store_row rfl 76 _ _ rfl w4.heap.size (arr (cl L H V bn v)) rfl rfl 76 (arr (fun _ => 0)) HQ.out (Try.infoArr _) (by rw [arr_size, arr_size]) (arr_one _) ?_; generalize hX : World.setRow _ _ _ = Y; have PK' : PutA w4 (cl L H V bn v) Y := (by rw [← hX]; exact PK.out); clear hX PK HQ; obtain ⟨c1, c2, c3⟩ := PK'; replace A4 := A4.below c2 A4.lt; replace hB4 := below_next hB4 (Nat.le_refl _) c2; clear c2))
  have HA4 : Hid (AHas Y w3.heap.size (cl L H U an v)) := A4
  have HC4 : Hid (AHas Y w4.heap.size (cl L H V bn v)) := c1
  clear A4 c1
  go_loopw [10, 11, 42] (fun x y z wr => ∃ i : Nat, i ≤ 24 ∧ z = .int .i64 i ∧ x = .int .i64 (mt (cl L H U an v) (cl L H V bn v) i).1 ∧ y = .int .i64 (mt (cl L H U an v) (cl L H V bn v) i).2 ∧ Below Y.heap.size Y wr) (fun _ _ z _ => 24 - (intOf z).toNat)
  case atStart => exact ⟨0, Nat.zero_le _, rfl, rfl, rfl, Below.refl _ _⟩
  case round =>
    obtain ⟨i, hi, rfl, rfl, rfl, hbel⟩ := hrel
    by_cases hlt : i < 24
    rotate_left
    · have e : i = 24 := by omega
      subst e
      go_wp2
      go_ret2
      exact ⟨rfl, below_next hB4 (Nat.le_refl _) hbel⟩
    have hlt' : (i : Int) < 24 := by omega
    have c0 := (HA4.out.below hbel HA4.out.lt).cell hlt
    have d0 := (HC4.out.below hbel HC4.out.lt).cell hlt
    have a0 := HA.out i
    have b0 := HB.out i
    obtain ⟨⟨p1, p2⟩, hp⟩ : ∃ p, mt (cl L H U an v) (cl L H V bn v) i = p := ⟨_, rfl⟩
    by_cases hs : min 1000000000000 (cl L H U an v i + cl L H V bn v i) < p2
    · have HY : Hid (mt (cl L H U an v) (cl L H V bn v) (i + 1) = ((i : Int), min 1000000000000 (cl L H U an v i + cl L H V bn v i))) := mt_yes hp hs
      rw [hp]
      clear hp
      go_wp2
      go_quiet (first | (go_at_call 72; refine Calls.quiet_of_same (plus_any _ _ a0.1 a0.2 b0.1 b0.2 _)))
      go_wp2
      go_roundw
      case rel => exact ⟨i + 1, by omega, by go_num, by rw [HY.out], by rw [HY.out], below_drewN hbel _⟩
      case measure => simp [intOf]; omega
    · have HY : Hid (mt (cl L H U an v) (cl L H V bn v) (i + 1) = (p1, p2)) := mt_no hp hs
      rw [hp]
      clear hp
      go_wp2
      go_quiet (first | (go_at_call 72; refine Calls.quiet_of_same (plus_any _ _ a0.1 a0.2 b0.1 b0.2 _)))
      go_wp2
      go_roundw
      case rel => exact ⟨i + 1, by omega, by go_num, by rw [HY.out], by rw [HY.out], below_drewN hbel _⟩
      case measure => simp [intOf]; omega

set_option maxHeartbeats 2000000 in
theorem implMeeting_any (po : Option Addr) (k pcap : Nat) (eo : Option Addr) (m ecap : Nat) (L H : Nat → Int) (uo : Option Addr) (u ucap : Nat) (U : Nat → Int) (vo : Option Addr) (v vcap : Nat) (V : Nat → Int) (a b : Int) (hk : k ≤ 1048576) (hm : m ≤ 1048576) (hu : u ≤ 1048576) (hv : v ≤ 1048576) (w : World) (he : ERow w eo m L H) (hU : IRow w uo u U) (hV : IRow w vo v V) :
    Calls Try.prog 18 #[.agg #[.slice po k pcap, .slice eo m ecap], .agg #[.slice uo u ucap, .slice vo v vcap], .int .i64 a, .int .i64 b] w fun e w' => e = .returned (.int .i64 (mtg k m L H u U v V a b).1) ∧ Below w.heap.size w w' := by
  generalize hM : mtg k m L H u U v V a b = M
  go_enter Try.func18, Try.ntmps18
  go_wp2_with fail
  refine (meet_any po k pcap eo m ecap L H uo u ucap U vo v vcap V a b hk hm hu hv _ ((he.alloc _).alloc _) ((hU.alloc _).alloc _) ((hV.alloc _).alloc _)).mono ?_
  rw [hM]
  rintro e w1 ⟨rfl, hb1⟩
  go_wp2
  go_ret
  exact ⟨rfl, unbox2 hb1 (by simp; omega)⟩

set_option maxHeartbeats 2000000 in
theorem implDistance_any (po : Option Addr) (k pcap : Nat) (P : Nat → Int) (eo : Option Addr) (m ecap : Nat) (L H : Nat → Int) (uo : Option Addr) (u ucap : Nat) (U : Nat → Int) (vo : Option Addr) (v vcap : Nat) (V : Nat → Int) (a b : Int) (hk : k ≤ 1048576) (hm : m ≤ 1048576) (hu : u ≤ 1048576) (hv : v ≤ 1048576) (w : World) (hP : IRow w po k P) (he : ERow w eo m L H) (hU : IRow w uo u U) (hV : IRow w vo v V) :
    Calls Try.prog 16 #[.agg #[.slice po k pcap, .slice eo m ecap], .agg #[.slice uo u ucap, .slice vo v vcap], .int .i64 a, .int .i64 b] w fun e w' => e = .returned (.int .i64 (dst k P m L H u U v V a b)) ∧ Below w.heap.size w w' := by
  generalize hD : dst k P m L H u U v V a b = dd
  have hB0 := ((Below.refl w.heap.size w).alloc (Nat.le_refl _) (.cells #[.slice po k pcap, .slice eo m ecap] 40)).alloc (by simp) (.cells #[.slice uo u ucap, .slice vo v vcap] 42)
  have q0 : ((w.alloc (.cells #[.slice po k pcap, .slice eo m ecap] 40)).alloc (.cells #[.slice uo u ucap, .slice vo v vcap] 42)).cell? ⟨w.heap.size, 0, none⟩ = some (.slice po k pcap) := by simp [go_sem]
  have q1 : ((w.alloc (.cells #[.slice po k pcap, .slice eo m ecap] 40)).alloc (.cells #[.slice uo u ucap, .slice vo v vcap] 42)).cell? ⟨w.heap.size, 1, none⟩ = some (.slice eo m ecap) := by simp [go_sem]
  have q2 : ((w.alloc (.cells #[.slice po k pcap, .slice eo m ecap] 40)).alloc (.cells #[.slice uo u ucap, .slice vo v vcap] 42)).cell? ⟨w.heap.size + 1, 0, none⟩ = some (.slice uo u ucap) := by simp [go_sem]
  have q3 : ((w.alloc (.cells #[.slice po k pcap, .slice eo m ecap] 40)).alloc (.cells #[.slice uo u ucap, .slice vo v vcap] 42)).cell? ⟨w.heap.size + 1, 1, none⟩ = some (.slice vo v vcap) := by simp [go_sem]
  go_enter Try.func16, Try.ntmps16
  go_wp2_with fail
  refine (implRanks_any po k pcap P hk _ (hP.below hB0 (Nat.le_refl _))).mono ?_
  rintro e w1 ⟨ao, cap, rfl, hA, hb1⟩
  replace q0 := keep_cell hb1 (Nat.le_refl _) q0
  replace q1 := keep_cell hb1 (Nat.le_refl _) q1
  replace q2 := keep_cell hb1 (Nat.le_refl _) q2
  replace q3 := keep_cell hb1 (Nat.le_refl _) q3
  have hB1 := below_next hB0 (Nat.le_refl _) hb1
  clear hb1 hB0
  by_cases hok : okR k P = true ∧ RIn k a ∧ RIn k b
  rotate_left
  · obtain rfl : dd = 1000000000000 := by rw [← hD]; exact dst_no (fun h => hok h.2)
    clear hD
    have hbad : inB a 0 ((lenR k P : Int) - 1) = false ∨ inB b 0 ((lenR k P : Int) - 1) = false := by
      unfold lenR
      by_cases h0 : okR k P = true
      · rw [if_pos h0]
        simp only [h0, true_and, RIn] at hok
        by_cases ha : inB a 0 ((k : Int) - 1) = true
        · right
          by_cases hb : inB b 0 ((k : Int) - 1) = true
          · exfalso
            simp [inB] at ha hb
            omega
          · simpa using hb
        · left
          simpa using ha
      · rw [if_neg h0]
        left
        simp [inB]
        omega
    have hl24 := lenR_le k P
    generalize lenR k P = n at hA hbad hl24 ⊢
    clear hA hok
    go_wp2_with fail
    refine (placeOk_any a (n : Int) _).mono ?_
    rcases hbad with h1 | h1
    · rw [h1]
      rintro e w2 ⟨rfl, hw2⟩
      have hw2' := hw2.symm
      subst hw2'
      clear hw2
      go_wp2
      go_ret
      exact ⟨rfl, hB1⟩
    · rintro e w2 ⟨rfl, hw2⟩
      have hw2' := hw2.symm
      subst hw2'
      clear hw2
      cases h2 : inB a 0 ((n : Int) - 1)
      · go_wp2
        go_ret
        exact ⟨rfl, hB1⟩
      · go_wp2_with fail
        refine (placeOk_any b (n : Int) _).mono ?_
        rw [h1]
        rintro e w2 ⟨rfl, hw2⟩
        have hw2' := hw2.symm
        subst hw2'
        clear hw2
        go_wp2
        go_ret
        exact ⟨rfl, hB1⟩
  obtain ⟨h0, ⟨ha0, ha1⟩, ⟨hb0, hb1⟩⟩ := hok
  have hL : lenR k P = k := by unfold lenR; rw [if_pos h0]
  have hk2 : 1 ≤ k ∧ k ≤ 24 := by simp [okR] at h0; omega
  obtain ⟨an, rfl⟩ : ∃ an : Nat, a = (an : Int) := ⟨a.toNat, by omega⟩
  obtain ⟨bn, rfl⟩ : ∃ bn : Nat, b = (bn : Int) := ⟨b.toNat, by omega⟩
  rw [dst_yes h0 ⟨by omega, by omega⟩ ⟨by omega, by omega⟩, Int.toNat_natCast, Int.toNat_natCast] at hD
  have la : an < k := by omega
  have lb : bn < k := by omega
  rw [hL] at hA ⊢
  obtain ⟨g, rfl, hg, hI⟩ := hA (by omega)
  have r0 := hI.cell la
  have r1 := hI.cell lb
  clear hI hA
  generalize rk P (-1) k an = ra at r0 hD
  generalize rk P (-1) k bn = rb at r1 hD
  generalize hM : mtg k m L H u U v V ra rb = M at hD
  subst hD
  have h1 : inB (an : Int) 0 ((k : Int) - 1) = true := by simp [inB]; omega
  have h2 : inB (bn : Int) 0 ((k : Int) - 1) = true := by simp [inB]; omega
  have lia : (an : Int) < (k : Int) := by omega
  have lib : (bn : Int) < (k : Int) := by omega
  go_wp2_with fail
  refine (placeOk_any (an : Int) (k : Int) _).mono ?_
  rw [h1]
  rintro e w2 ⟨rfl, hw2⟩
  have hw2' := hw2.symm
  subst hw2'
  clear hw2
  go_wp2_with fail
  refine (placeOk_any (bn : Int) (k : Int) _).mono ?_
  rw [h2]
  rintro e w2 ⟨rfl, hw2⟩
  have hw2' := hw2.symm
  subst hw2'
  clear hw2
  go_wp2_with fail
  have hbd := (Below.refl w1.heap.size w1).drew
  replace q0 := keep_cell hbd (Nat.le_refl _) q0
  replace q1 := keep_cell hbd (Nat.le_refl _) q1
  replace q2 := keep_cell hbd (Nat.le_refl _) q2
  replace q3 := keep_cell hbd (Nat.le_refl _) q3
  replace r0 := keep_cell hbd (Nat.le_refl _) r0
  replace r1 := keep_cell hbd (Nat.le_refl _) r1
  replace hB1 := below_next hB1 (Nat.le_refl _) hbd
  clear hbd
  go_region_held3 (fun w' => w'.cell? ⟨w.heap.size, 0, none⟩ = some (.slice po k pcap) ∧ w'.cell? ⟨w.heap.size, 1, none⟩ = some (.slice eo m ecap) ∧ w'.cell? ⟨w.heap.size + 1, 0, none⟩ = some (.slice uo u ucap) ∧ w'.cell? ⟨w.heap.size + 1, 1, none⟩ = some (.slice vo v vcap) ∧ w'.cell? ⟨g, an, none⟩ = some (.int .i64 ra) ∧ w'.cell? ⟨g, bn, none⟩ = some (.int .i64 rb))
    (first | (go_split_ands; refine ⟨?_, ?_, ?_, ?_, ?_, ?_⟩ <;> exact keep_cell hb5 (Nat.le_refl _) (by assumption)) | go_keep)
    (first | (go_at_call 44; refine (meet_any po k pcap eo m ecap L H uo u ucap U vo v vcap V ra rb hk hm hu hv _ (he.below hB1 (Nat.le_refl _)) (hU.below hB1 (Nat.le_refl _)) (hV.below hB1 (Nat.le_refl _))).mono ?_; rw [hM]; rintro e w5 ⟨rfl, hb5⟩))
  go_wp2
  go_ret
  exact ⟨rfl, below_next hB1 (Nat.le_refl _) hb5⟩

end Go.Proofs.Ytoklneimebhjdab
