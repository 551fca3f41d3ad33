/-
  Meeting and Distance, the document's, at every hierarchy and every metric.
-/
import Derived.Test.YtoklneimebhjdabClmSP
import Derived.Test.YtoklneimebhjdabPack3
set_option linter.unusedVariables false
set_option linter.unusedSimpArgs false
namespace Go.Proofs.Ytoklneimebhjdab
open Go.RowKit Go.Deep Go.Joins
attribute [local go_sem ↓] Go.wp_at_zero Go.wp_at_succ

set_option maxRecDepth 100000 in
set_option maxHeartbeats 4000000 in
theorem l6Meet_any (po : Option Addr) (k pcap : Nat) (eo : Option Addr) (m ecap : Nat) (L H : Nat → Int) (uo : Option Addr) (ucap : Nat) (U : Nat → Int) (vo : Option Addr) (vcap : Nat) (V : Nat → Int) (a b : Nat) (hT : TOld k m L H m U m V) (ha : a < k) (hb : b < k) (hm : m ≤ 1048576) (w : World) (he : ERow w eo m L H) (hU : IRow w uo m U) (hV : IRow w vo m V) :
    Calls Try.prog 47 #[.agg #[.slice po k pcap, .slice eo m ecap], .agg #[.slice uo m ucap, .slice vo m vcap], .int .i64 a, .int .i64 b] w fun e w' => e = .returned (.tuple #[.int .i64 (mt (cl L H U a m) (cl L H V b m) k).1, .int .i64 (mt (cl L H U a m) (cl L H V b m) k).2]) ∧ Below w.heap.size w w' := by
  have hk24 := (told_k hT).2
  have HT : Hid (TOld k m L H m U m V) := hT
  have HA : Hid (∀ j, 0 ≤ cl L H U a m j ∧ cl L H U a m j ≤ 1000000000000) := cl_in a hT.2.2.2.1 m (Nat.le_refl _)
  have HB : Hid (∀ j, 0 ≤ cl L H V b m j ∧ cl L H V b m j ≤ 1000000000000) := cl_in b hT.2.2.2.2 m (Nat.le_refl _)
  clear hT
  go_enter Try.func47, Try.ntmps47
  have hB0 := ((Below.refl w.heap.size w).alloc (Nat.le_refl _) (.cells #[.slice po k pcap, .slice eo m ecap] 40)).alloc (by simp) (.cells #[.slice uo m ucap, .slice vo m vcap] 42)
  have q0 : ((w.alloc (.cells #[.slice po k pcap, .slice eo m ecap] 40)).alloc (.cells #[.slice uo m ucap, .slice vo m vcap] 42)).cell? ⟨w.heap.size, 0, none⟩ = some (.slice po k pcap) := by simp [go_sem]
  have q1 : ((w.alloc (.cells #[.slice po k pcap, .slice eo m ecap] 40)).alloc (.cells #[.slice uo m ucap, .slice vo m vcap] 42)).cell? ⟨w.heap.size, 1, none⟩ = some (.slice eo m ecap) := by simp [go_sem]
  have q2 : ((w.alloc (.cells #[.slice po k pcap, .slice eo m ecap] 40)).alloc (.cells #[.slice uo m ucap, .slice vo m vcap] 42)).cell? ⟨w.heap.size + 1, 0, none⟩ = some (.slice uo m ucap) := by simp [go_sem]
  have q3 : ((w.alloc (.cells #[.slice po k pcap, .slice eo m ecap] 40)).alloc (.cells #[.slice uo m ucap, .slice vo m vcap] 42)).cell? ⟨w.heap.size + 1, 1, none⟩ = some (.slice vo m vcap) := by simp [go_sem]
  go_wp2_with fail
  refine (l6Climb_any po k pcap eo m ecap L H uo ucap U vo vcap V a false HT.out ha hm _ (he.below hB0 (Nat.le_refl _)) (hU.below hB0 (Nat.le_refl _)) (hV.below hB0 (Nat.le_refl _))).mono ?_
  rintro e w1 ⟨g1, c1, rfl, hg1, hI1, hb1⟩
  replace q0 := keep_cell hb1 (Nat.le_refl _) q0
  replace q1 := keep_cell hb1 (Nat.le_refl _) q1
  replace q2 := keep_cell hb1 (Nat.le_refl _) q2
  replace q3 := keep_cell hb1 (Nat.le_refl _) q3
  have hB1 := below_next hB0 (Nat.le_refl _) hb1
  clear hb1 hB0 hg1
  go_wp2_with fail
  refine (l6Climb_any po k pcap eo m ecap L H uo ucap U vo vcap V b true HT.out hb hm _ (he.below hB1 (Nat.le_refl _)) (hU.below hB1 (Nat.le_refl _)) (hV.below hB1 (Nat.le_refl _))).mono ?_
  rintro e w2 ⟨g2, c2, rfl, hg2, hI2, hb2⟩
  replace hI1 := hI1.below hb2 hI1.lt
  have hB2 := below_next hB1 (Nat.le_refl _) hb2
  have HI1 : Hid (IHas w2 g1 k (cl L H U a m)) := hI1
  have HI2 : Hid (IHas w2 g2 k (cl L H V b m)) := hI2
  clear hb2 hB1 hg2 q0 q1 q2 q3 hI1 hI2
  go_wp2
  go_loopw [12, 13, 14] (fun x y z wr => ∃ i : Nat, i ≤ k ∧ z = .int .i64 i ∧ x = .int .i64 (mt (cl L H U a m) (cl L H V b m) i).1 ∧ y = .int .i64 (mt (cl L H U a m) (cl L H V b m) i).2 ∧ Below w2.heap.size w2 wr) (fun _ _ z _ => k - (intOf z).toNat)
  case atStart => exact ⟨0, Nat.zero_le _, rfl, rfl, rfl, Below.refl _ _⟩
  case round =>
    obtain ⟨i, hi, rfl, rfl, rfl, hbel⟩ := hrel
    by_cases hlt : i < k
    rotate_left
    · have e : i = k := by omega
      subst e
      go_wp2
      go_ret2
      exact ⟨rfl, below_next hB2 (Nat.le_refl _) hbel⟩
    have hlt' : (i : Int) < (k : Int) := by omega
    have c0 := (HI1.out.below hbel HI1.out.lt).cell hlt
    have d0 := (HI2.out.below hbel HI2.out.lt).cell hlt
    have a0 := HA.out i
    have b0 := HB.out i
    obtain ⟨⟨p1, p2⟩, hp⟩ : ∃ p, mt (cl L H U a m) (cl L H V b m) i = p := ⟨_, rfl⟩
    by_cases hs : min 1000000000000 (cl L H U a m i + cl L H V b m i) < p2
    · have HY : Hid (mt (cl L H U a m) (cl L H V b m) (i + 1) = ((i : Int), min 1000000000000 (cl L H U a m i + cl L H V b m i))) := mt_yes hp hs
      rw [hp]
      clear hp
      go_wp2
      go_quiet (first | (go_at_call 82; refine Calls.quiet_of_same (l1Add_any _ _ a0.1 a0.2 b0.1 b0.2 _)))
      go_wp2
      go_roundw
      case rel => exact ⟨i + 1, by omega, by go_num, by rw [HY.out], by rw [HY.out], below_drewN hbel _⟩
      case measure => simp [intOf]; omega
    · have HY : Hid (mt (cl L H U a m) (cl L H V b m) (i + 1) = (p1, p2)) := mt_no hp hs
      rw [hp]
      clear hp
      go_wp2
      go_quiet (first | (go_at_call 82; refine Calls.quiet_of_same (l1Add_any _ _ a0.1 a0.2 b0.1 b0.2 _)))
      go_wp2
      go_roundw
      case rel => exact ⟨i + 1, by omega, by go_num, by rw [HY.out], by rw [HY.out], below_drewN hbel _⟩
      case measure => simp [intOf]; omega

set_option maxHeartbeats 2000000 in
theorem specMeeting_any (po : Option Addr) (k pcap : Nat) (eo : Option Addr) (m ecap : Nat) (L H : Nat → Int) (uo : Option Addr) (u ucap : Nat) (U : Nat → Int) (vo : Option Addr) (v vcap : Nat) (V : Nat → Int) (a b : Int) (hk : k ≤ 1048576) (hm : m ≤ 1048576) (hu : u ≤ 1048576) (hv : v ≤ 1048576) (w : World) (he : ERow w eo m L H) (hU : IRow w uo u U) (hV : IRow w vo v V) :
    Calls Try.prog 19 #[.agg #[.slice po k pcap, .slice eo m ecap], .agg #[.slice uo u ucap, .slice vo v vcap], .int .i64 a, .int .i64 b] w fun e w' => e = .returned (.int .i64 (mtg k m L H u U v V a b).1) ∧ Below w.heap.size w w' := by
  by_cases hT : TOld k m L H u U v V
  rotate_left
  · rw [mtg_no (fun h => hT h.1)]
    have HN : Hid (¬ TOld k m L H u U v V) := hT
    clear hT
    go_enter Try.func19, Try.ntmps19
    go_wp2_with (go_at_call 45; refine (l6Told_any po k pcap eo m ecap L H uo u ucap U vo v vcap V hk hm hu hv _ ((he.alloc _).alloc _) ((hU.alloc _).alloc _) ((hV.alloc _).alloc _)).mono ?_; rintro e w1 ⟨⟨b0, rfl, hb0⟩, hb1⟩; obtain rfl : b0 = false := (by cases b0 <;> first | rfl | exact absurd (hb0.1 rfl) HN.out); clear hb0)
    go_ret
    exact ⟨rfl, unbox2 hb1 (by simp; omega)⟩
  obtain ⟨hk1, hk2⟩ := told_k hT
  obtain rfl : u = m := hT.2.1
  obtain rfl : v = u := hT.2.2.1
  have HT : Hid (TOld k v L H v U v V) := hT
  clear hT
  rcases Bool.eq_false_or_eq_true (inB a 0 ((k : Int) - 1)) with h1 | h1
  rotate_left
  · rw [mtg_no (fun h => by have := h.2.1; simp [RIn] at this; simp [inB] at h1; omega)]
    go_enter Try.func19, Try.ntmps19
    go_wp2_with (first | (go_at_call 45; refine (l6Told_any po k pcap eo v ecap L H uo v ucap U vo v vcap V hk hm hu hv _ ((he.alloc _).alloc _) ((hU.alloc _).alloc _) ((hV.alloc _).alloc _)).mono ?_; rintro e w1 ⟨⟨b0, rfl, hb0⟩, hb1⟩; obtain rfl : b0 = true := hb0.2 HT.out; clear hb0; obtain ⟨⟨q0, q1⟩, ⟨q2, q3⟩, q6⟩ := box2m (hb1.mono (B' := w.heap.size + 2) (by simp))) | (go_at_call 37; refine (l1In_any _ _ _ _).mono ?_; rintro e wq ⟨rfl, hq⟩; have hq' := hq.symm; subst hq'; clear hq))
    go_ret
    exact ⟨rfl, unbox2 hb1 (by simp; omega)⟩
  rcases Bool.eq_false_or_eq_true (inB b 0 ((k : Int) - 1)) with h2 | h2
  rotate_left
  · rw [mtg_no (fun h => by have := h.2.2; simp [RIn] at this; simp [inB] at h2; omega)]
    go_enter Try.func19, Try.ntmps19
    go_wp2_with (first | (go_at_call 45; refine (l6Told_any po k pcap eo v ecap L H uo v ucap U vo v vcap V hk hm hu hv _ ((he.alloc _).alloc _) ((hU.alloc _).alloc _) ((hV.alloc _).alloc _)).mono ?_; rintro e w1 ⟨⟨b0, rfl, hb0⟩, hb1⟩; obtain rfl : b0 = true := hb0.2 HT.out; clear hb0; obtain ⟨⟨q0, q1⟩, ⟨q2, q3⟩, q6⟩ := box2m (hb1.mono (B' := w.heap.size + 2) (by simp))) | (go_at_call 37; refine (l1In_any _ _ _ _).mono ?_; rintro e wq ⟨rfl, hq⟩; have hq' := hq.symm; subst hq'; clear hq))
    go_ret
    exact ⟨rfl, unbox2 hb1 (by simp; omega)⟩
  have ha0 : 0 ≤ a ∧ a ≤ (k : Int) - 1 := by simpa [inB] using h1
  have hb0 : 0 ≤ b ∧ b ≤ (k : Int) - 1 := by simpa [inB] using h2
  obtain ⟨an, rfl⟩ : ∃ an : Nat, a = (an : Int) := ⟨a.toNat, by omega⟩
  obtain ⟨bn, rfl⟩ : ∃ bn : Nat, b = (bn : Int) := ⟨b.toNat, by omega⟩
  rw [mtg_yes HT.out ⟨by omega, by omega⟩ ⟨by omega, by omega⟩, Int.toNat_natCast, Int.toNat_natCast]
  go_enter Try.func19, Try.ntmps19
  go_wp2_with (first | (go_at_call 45; refine (l6Told_any po k pcap eo v ecap L H uo v ucap U vo v vcap V hk hm hu hv _ ((he.alloc _).alloc _) ((hU.alloc _).alloc _) ((hV.alloc _).alloc _)).mono ?_; rintro e w1 ⟨⟨b0, rfl, hb0⟩, hb1⟩; obtain rfl : b0 = true := hb0.2 HT.out; clear hb0; obtain ⟨⟨q0, q1⟩, ⟨q2, q3⟩, q6⟩ := box2m (hb1.mono (B' := w.heap.size + 2) (by simp))) | (go_at_call 37; refine (l1In_any _ _ _ _).mono ?_; rintro e wq ⟨rfl, hq⟩; have hq' := hq.symm; subst hq'; clear hq) | (go_at_call 47; refine (l6Meet_any po k pcap eo v ecap L H uo ucap U vo vcap V an bn HT.out (by omega) (by omega) hm _ (((he.alloc _).alloc _).below hb1 (Nat.le_refl _)) (((hU.alloc _).alloc _).below hb1 (Nat.le_refl _)) (((hV.alloc _).alloc _).below hb1 (Nat.le_refl _))).mono ?_; rintro e w2 ⟨rfl, hb2⟩))
  go_ret
  exact ⟨rfl, unbox2 (below_next hb1 (Nat.le_refl _) hb2) (by simp; omega)⟩

open Classical in
/-- What Distance answers. -/
noncomputable def dst (k : Nat) (P : Nat → Int) (m : Nat) (L H : Nat → Int) (u : Nat) (U : Nat → Int) (v : Nat) (V : Nat → Int) (a b : Int) : Int :=
  if okR k P = true ∧ RIn k a ∧ RIn k b then (mtg k m L H u U v V (rk P (-1) k a.toNat) (rk P (-1) k b.toNat)).2 else 1000000000000
theorem dst_no {k : Nat} {P : Nat → Int} {m : Nat} {L H : Nat → Int} {u : Nat} {U : Nat → Int} {v : Nat} {V : Nat → Int} {a b : Int} (h : ¬ (TOld k m L H u U v V ∧ okR k P = true ∧ RIn k a ∧ RIn k b)) : dst k P m L H u U v V a b = 1000000000000 := by
  unfold dst
  split
  · next hx => rw [mtg_no (fun y => h ⟨y.1, hx⟩)]
  · rfl
theorem dst_yes {k : Nat} {P : Nat → Int} {m : Nat} {L H : Nat → Int} {u : Nat} {U : Nat → Int} {v : Nat} {V : Nat → Int} {a b : Int} (h : okR k P = true) (ha : RIn k a) (hb : RIn k b) : dst k P m L H u U v V a b = (mtg k m L H u U v V (rk P (-1) k a.toNat) (rk P (-1) k b.toNat)).2 := by
  unfold dst; rw [if_pos ⟨h, ha, hb⟩]
theorem rk_in {k : Nat} {P : Nat → Int} (h : okR k P = true) {a : Nat} (ha : a < k) : 0 ≤ rk P (-1) k a ∧ rk P (-1) k a < (k : Int) := by
  simp [okR] at h
  exact ⟨(rk_sn P k a).1 (each_all h.2.2 a ha), (rk_hi P k a).1⟩

set_option maxHeartbeats 2000000 in
theorem specDistance_any (po : Option Addr) (k pcap : Nat) (P : Nat → Int) (eo : Option Addr) (m ecap : Nat) (L H : Nat → Int) (uo : Option Addr) (u ucap : Nat) (U : Nat → Int) (vo : Option Addr) (v vcap : Nat) (V : Nat → Int) (a b : Int) (hk : k ≤ 1048576) (hm : m ≤ 1048576) (hu : u ≤ 1048576) (hv : v ≤ 1048576) (w : World) (hP : IRow w po k P) (he : ERow w eo m L H) (hU : IRow w uo u U) (hV : IRow w vo v V) :
    Calls Try.prog 17 #[.agg #[.slice po k pcap, .slice eo m ecap], .agg #[.slice uo u ucap, .slice vo v vcap], .int .i64 a, .int .i64 b] w fun e w' => e = .returned (.int .i64 (dst k P m L H u U v V a b)) ∧ Below w.heap.size w w' := by
  by_cases hT : TOld k m L H u U v V
  rotate_left
  · rw [dst_no (fun h => hT h.1)]
    have HN : Hid (¬ TOld k m L H u U v V) := hT
    clear hT
    go_enter Try.func17, Try.ntmps17
    go_wp2_with (go_at_call 45; refine (l6Told_any po k pcap eo m ecap L H uo u ucap U vo v vcap V hk hm hu hv _ ((he.alloc _).alloc _) ((hU.alloc _).alloc _) ((hV.alloc _).alloc _)).mono ?_; rintro e w1 ⟨⟨b0, rfl, hb0⟩, hb1⟩; obtain rfl : b0 = false := (by cases b0 <;> first | rfl | exact absurd (hb0.1 rfl) HN.out); clear hb0)
    go_ret
    exact ⟨rfl, unbox2 hb1 (by simp; omega)⟩
  obtain ⟨hk1, hk2⟩ := told_k hT
  obtain rfl : u = m := hT.2.1
  obtain rfl : v = u := hT.2.2.1
  have HT : Hid (TOld k v L H v U v V) := hT
  clear hT
  rcases Bool.eq_false_or_eq_true (okR k P) with h0 | h0
  rotate_left
  · rw [dst_no (fun h => by rw [h.2.1] at h0; cases h0)]
    go_enter Try.func17, Try.ntmps17
    go_wp2_with (first | (go_at_call 45; refine (l6Told_any po k pcap eo v ecap L H uo v ucap U vo v vcap V hk hm hu hv _ ((he.alloc _).alloc _) ((hU.alloc _).alloc _) ((hV.alloc _).alloc _)).mono ?_; rintro e w1 ⟨⟨b0, rfl, hb0⟩, hb1⟩; obtain rfl : b0 = true := hb0.2 HT.out; clear hb0; obtain ⟨⟨q0, q1⟩, ⟨q2, q3⟩, q6⟩ := box2m (hb1.mono (B' := w.heap.size + 2) (by simp))) | (go_at_call 41; refine (l3Each_any po k pcap P hk _ (((hP.alloc _).alloc _).below hb1 (Nat.le_refl _))).mono ?_; rw [h0]; rintro e w3 ⟨rfl, hb3⟩))
    go_ret
    exact ⟨rfl, unbox2 (below_next hb1 (Nat.le_refl _) hb3) (by simp; omega)⟩
  have EACH : Hid (eachB k P k = true) := by simp [okR] at h0; exact h0.2.2
  rcases Bool.eq_false_or_eq_true (inB a 0 ((k : Int) - 1)) with h1 | h1
  rotate_left
  · rw [dst_no (fun h => by have := h.2.2.1; simp [RIn] at this; simp [inB] at h1; omega)]
    go_enter Try.func17, Try.ntmps17
    go_wp2_with (first | (go_at_call 45; refine (l6Told_any po k pcap eo v ecap L H uo v ucap U vo v vcap V hk hm hu hv _ ((he.alloc _).alloc _) ((hU.alloc _).alloc _) ((hV.alloc _).alloc _)).mono ?_; rintro e w1 ⟨⟨b0, rfl, hb0⟩, hb1⟩; obtain rfl : b0 = true := hb0.2 HT.out; clear hb0; obtain ⟨⟨q0, q1⟩, ⟨q2, q3⟩, q6⟩ := box2m (hb1.mono (B' := w.heap.size + 2) (by simp))) | (go_at_call 41; refine (l3Each_any po k pcap P hk _ (((hP.alloc _).alloc _).below hb1 (Nat.le_refl _))).mono ?_; rw [h0]; rintro e w3 ⟨rfl, hb3⟩) | (go_at_call 37; refine (l1In_any _ _ _ _).mono ?_; rintro e wq ⟨rfl, hq⟩; have hq' := hq.symm; subst hq'; clear hq))
    go_ret
    exact ⟨rfl, unbox2 (below_next hb1 (Nat.le_refl _) hb3) (by simp; omega)⟩
  rcases Bool.eq_false_or_eq_true (inB b 0 ((k : Int) - 1)) with h2 | h2
  rotate_left
  · rw [dst_no (fun h => by have := h.2.2.2; simp [RIn] at this; simp [inB] at h2; omega)]
    go_enter Try.func17, Try.ntmps17
    go_wp2_with (first | (go_at_call 45; refine (l6Told_any po k pcap eo v ecap L H uo v ucap U vo v vcap V hk hm hu hv _ ((he.alloc _).alloc _) ((hU.alloc _).alloc _) ((hV.alloc _).alloc _)).mono ?_; rintro e w1 ⟨⟨b0, rfl, hb0⟩, hb1⟩; obtain rfl : b0 = true := hb0.2 HT.out; clear hb0; obtain ⟨⟨q0, q1⟩, ⟨q2, q3⟩, q6⟩ := box2m (hb1.mono (B' := w.heap.size + 2) (by simp))) | (go_at_call 41; refine (l3Each_any po k pcap P hk _ (((hP.alloc _).alloc _).below hb1 (Nat.le_refl _))).mono ?_; rw [h0]; rintro e w3 ⟨rfl, hb3⟩) | (go_at_call 37; refine (l1In_any _ _ _ _).mono ?_; rintro e wq ⟨rfl, hq⟩; have hq' := hq.symm; subst hq'; clear hq))
    go_ret
    exact ⟨rfl, unbox2 (below_next hb1 (Nat.le_refl _) hb3) (by simp; omega)⟩
  have ha0 : 0 ≤ a ∧ a ≤ (k : Int) - 1 := by simpa [inB] using h1
  have hb0 : 0 ≤ b ∧ b ≤ (k : Int) - 1 := by simpa [inB] using h2
  obtain ⟨an, rfl⟩ : ∃ an : Nat, a = (an : Int) := ⟨a.toNat, by omega⟩
  obtain ⟨bn, rfl⟩ : ∃ bn : Nat, b = (bn : Int) := ⟨b.toNat, by omega⟩
  rw [dst_yes h0 ⟨by omega, by omega⟩ ⟨by omega, by omega⟩, Int.toNat_natCast, Int.toNat_natCast]
  have la : an < k := by omega
  have lb : bn < k := by omega
  obtain ⟨ra0, ra1⟩ := rk_in h0 la
  obtain ⟨rb0, rb1⟩ := rk_in h0 lb
  have ea := rk_same P 0 (-1) k an (each_all EACH.out an la)
  have eb := rk_same P 0 (-1) k bn (each_all EACH.out bn lb)
  obtain ⟨ra, hra⟩ : ∃ ra : Nat, rk P (-1) k an = (ra : Int) := ⟨(rk P (-1) k an).toNat, by omega⟩
  obtain ⟨rb, hrb⟩ : ∃ rb : Nat, rk P (-1) k bn = (rb : Int) := ⟨(rk P (-1) k bn).toNat, by omega⟩
  rw [hra] at ea ra0 ra1 ⊢
  rw [hrb] at eb rb0 rb1 ⊢
  rw [mtg_yes HT.out ⟨by omega, by omega⟩ ⟨by omega, by omega⟩, Int.toNat_natCast, Int.toNat_natCast]
  clear hra hrb
  go_enter Try.func17, Try.ntmps17
  go_wp2_with (first | (go_at_call 45; refine (l6Told_any po k pcap eo v ecap L H uo v ucap U vo v vcap V hk hm hu hv _ ((he.alloc _).alloc _) ((hU.alloc _).alloc _) ((hV.alloc _).alloc _)).mono ?_; rintro e w1 ⟨⟨b0, rfl, hb0⟩, hb1⟩; obtain rfl : b0 = true := hb0.2 HT.out; clear hb0; obtain ⟨⟨q0, q1⟩, ⟨q2, q3⟩, q6⟩ := box2m (hb1.mono (B' := w.heap.size + 2) (by simp))) | (go_at_call 41; refine (l3Each_any po k pcap P hk _ (((hP.alloc _).alloc _).below hb1 (Nat.le_refl _))).mono ?_; rw [h0]; rintro e w3 ⟨rfl, hb3⟩; replace q0 := keep_cell hb3 (Nat.le_refl _) q0; replace q1 := keep_cell hb3 (Nat.le_refl _) q1; replace q2 := keep_cell hb3 (Nat.le_refl _) q2; replace q3 := keep_cell hb3 (Nat.le_refl _) q3; replace hb1 := below_next hb1 (Nat.le_refl _) hb3) | (go_at_call 37; refine (l1In_any _ _ _ _).mono ?_; rintro e wq ⟨rfl, hq⟩; have hq' := hq.symm; subst hq'; clear hq) | (go_at_call 46; refine (l3Ranks_any po k pcap P hk2 EACH.out _ (((hP.alloc _).alloc _).below hb1 (Nat.le_refl _))).mono ?_; rintro e w4 ⟨rfl, hI4, hb4⟩; replace q0 := keep_cell hb4 (Nat.le_refl _) q0; replace q1 := keep_cell hb4 (Nat.le_refl _) q1; replace q2 := keep_cell hb4 (Nat.le_refl _) q2; replace q3 := keep_cell hb4 (Nat.le_refl _) q3; replace hb1 := below_next hb1 (Nat.le_refl _) hb4; have r0 := hI4.cell la; have r1 := hI4.cell lb; rw [ea] at r0; rw [eb] at r1))
  have hbd := (Below.refl w4.heap.size w4).drew
  replace q0 := keep_cell hbd (Nat.le_refl _) q0
  replace q1 := keep_cell hbd (Nat.le_refl _) q1
  replace q2 := keep_cell hbd (Nat.le_refl _) q2
  replace q3 := keep_cell hbd (Nat.le_refl _) q3
  replace r0 := keep_cell hbd (Nat.le_refl _) r0
  replace r1 := keep_cell hbd (Nat.le_refl _) r1
  replace hb1 := below_next hb1 (Nat.le_refl _) hbd
  clear hbd hI4
  have lia : (an : Int) < (k : Int) := by omega
  have lib : (bn : Int) < (k : Int) := by omega
  go_region_held3 (fun w' => w'.cell? ⟨w.heap.size, 0, none⟩ = some (.slice po k pcap) ∧ w'.cell? ⟨w.heap.size, 1, none⟩ = some (.slice eo v ecap) ∧ w'.cell? ⟨w.heap.size + 1, 0, none⟩ = some (.slice uo v ucap) ∧ w'.cell? ⟨w.heap.size + 1, 1, none⟩ = some (.slice vo v vcap) ∧ w'.cell? ⟨w3.heap.size, an, none⟩ = some (.int .i64 (ra : Int)) ∧ w'.cell? ⟨w3.heap.size, bn, none⟩ = some (.int .i64 (rb : Int)))
    (first | (go_split_ands; refine ⟨?_, ?_, ?_, ?_, ?_, ?_⟩ <;> exact keep_cell hb5 (Nat.le_refl _) (by assumption)) | go_keep)
    (first | (go_at_call 47; refine (l6Meet_any po k pcap eo v ecap L H uo ucap U vo vcap V ra rb HT.out (by omega) (by omega) hm _ (((he.alloc _).alloc _).below hb1 (Nat.le_refl _)) (((hU.alloc _).alloc _).below hb1 (Nat.le_refl _)) (((hV.alloc _).alloc _).below hb1 (Nat.le_refl _))).mono ?_; rintro e w5 ⟨rfl, hb5⟩))
  go_wp2
  go_ret
  exact ⟨rfl, unbox2 (below_next hb1 (Nat.le_refl _) hb5) (by simp; omega)⟩

end Go.Proofs.Ytoklneimebhjdab
