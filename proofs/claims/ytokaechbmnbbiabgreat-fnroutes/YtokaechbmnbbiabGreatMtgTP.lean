/-
  The meeting of two climbs, the document's.
-/
import Derived.Test.YtokaechbmnbbiabGreatPack14
import Derived.Test.YtokaechbmnbbiabGreatClmTP
import Derived.Test.YtokaechbmnbbiabGreatPack3
set_option linter.unusedVariables false
set_option linter.unusedSimpArgs false
namespace Go.Proofs.YtokaechbmnbbiabGreat
open Go.RowKit Go.Deep Go.Joins
attribute [local go_sem ↓] Go.wp_at_zero Go.wp_at_succ

set_option maxRecDepth 100000 in
set_option maxHeartbeats 4000000 in
theorem l6Meet_any (po : Option Addr) (k pcap : Nat) (eo : Option Addr) (m ecap : Nat) (L H : Nat → Int) (uo : Option Addr) (ucap : Nat) (U : Nat → Int) (vo : Option Addr) (vcap : Nat) (V : Nat → Int) (a b : Nat) (hT : TOld k m L H m U m V) (ha : a < k) (hb : b < k) (hm : m ≤ 1048576) (w : World) (he : ERow w eo m L H) (hU : IRow w uo m U) (hV : IRow w vo m V) :
    Calls Tryz.prog 74 #[.agg #[.slice po k pcap, .slice eo m ecap], .agg #[.slice uo m ucap, .slice vo m vcap], .int .i64 a, .int .i64 b] w fun e w' => e = .returned (.tuple #[.int .i64 (mt (cl L H U a m) (cl L H V b m) k).1, .int .i64 (mt (cl L H U a m) (cl L H V b m) k).2]) ∧ Below w.heap.size w w' := by
  have hk24 := (told_k hT).2
  have HT : Hid (TOld k m L H m U m V) := hT
  have HA : Hid (∀ j, 0 ≤ cl L H U a m j ∧ cl L H U a m j ≤ 1000000000000) := cl_in a hT.2.2.2.1 m (Nat.le_refl _)
  have HB : Hid (∀ j, 0 ≤ cl L H V b m j ∧ cl L H V b m j ≤ 1000000000000) := cl_in b hT.2.2.2.2 m (Nat.le_refl _)
  clear hT
  go_enter Tryz.func74, Tryz.ntmps74
  have hB0 := ((Below.refl w.heap.size w).alloc (Nat.le_refl _) (.cells #[.slice po k pcap, .slice eo m ecap] 30)).alloc (by simp) (.cells #[.slice uo m ucap, .slice vo m vcap] 34)
  have q0 : ((w.alloc (.cells #[.slice po k pcap, .slice eo m ecap] 30)).alloc (.cells #[.slice uo m ucap, .slice vo m vcap] 34)).cell? ⟨w.heap.size, 0, none⟩ = some (.slice po k pcap) := by simp [go_sem]
  have q1 : ((w.alloc (.cells #[.slice po k pcap, .slice eo m ecap] 30)).alloc (.cells #[.slice uo m ucap, .slice vo m vcap] 34)).cell? ⟨w.heap.size, 1, none⟩ = some (.slice eo m ecap) := by simp [go_sem]
  have q2 : ((w.alloc (.cells #[.slice po k pcap, .slice eo m ecap] 30)).alloc (.cells #[.slice uo m ucap, .slice vo m vcap] 34)).cell? ⟨w.heap.size + 1, 0, none⟩ = some (.slice uo m ucap) := by simp [go_sem]
  have q3 : ((w.alloc (.cells #[.slice po k pcap, .slice eo m ecap] 30)).alloc (.cells #[.slice uo m ucap, .slice vo m vcap] 34)).cell? ⟨w.heap.size + 1, 1, none⟩ = some (.slice vo m vcap) := by simp [go_sem]
  go_wp2_with fail
  refine (l6Climb_any po k pcap eo m ecap L H uo ucap U vo vcap V a false HT.out ha hm _ (he.below hB0 (Nat.le_refl _)) (hU.below hB0 (Nat.le_refl _)) (hV.below hB0 (Nat.le_refl _))).mono ?_
  rintro e w1 ⟨g1, c1, rfl, hg1, hI1, hb1⟩
  replace q0 := keep_cell hb1 (Nat.le_refl _) q0
  replace q1 := keep_cell hb1 (Nat.le_refl _) q1
  replace q2 := keep_cell hb1 (Nat.le_refl _) q2
  replace q3 := keep_cell hb1 (Nat.le_refl _) q3
  have hB1 := below_next hB0 (Nat.le_refl _) hb1
  clear hb1 hB0 hg1
  go_wp2_with fail
  refine (l6Climb_any po k pcap eo m ecap L H uo ucap U vo vcap V b true HT.out hb hm _ (he.below hB1 (Nat.le_refl _)) (hU.below hB1 (Nat.le_refl _)) (hV.below hB1 (Nat.le_refl _))).mono ?_
  rintro e w2 ⟨g2, c2, rfl, hg2, hI2, hb2⟩
  replace hI1 := hI1.below hb2 hI1.lt
  have hB2 := below_next hB1 (Nat.le_refl _) hb2
  have HI1 : Hid (IHas w2 g1 k (cl L H U a m)) := hI1
  have HI2 : Hid (IHas w2 g2 k (cl L H V b m)) := hI2
  clear hb2 hB1 hg2 q0 q1 q2 q3 hI1 hI2
  go_wp2
  go_loopw [12, 13, 14] (fun x y z wr => ∃ i : Nat, i ≤ k ∧ z = .int .i64 i ∧ x = .int .i64 (mt (cl L H U a m) (cl L H V b m) i).1 ∧ y = .int .i64 (mt (cl L H U a m) (cl L H V b m) i).2 ∧ Below w2.heap.size w2 wr) (fun _ _ z _ => k - (intOf z).toNat)
  case atStart => exact ⟨0, Nat.zero_le _, rfl, rfl, rfl, Below.refl _ _⟩
  case round =>
    obtain ⟨i, hi, rfl, rfl, rfl, hbel⟩ := hrel
    by_cases hlt : i < k
    rotate_left
    · have e : i = k := by omega
      subst e
      go_wp2
      go_ret2
      exact ⟨rfl, below_next hB2 (Nat.le_refl _) hbel⟩
    have hlt' : (i : Int) < (k : Int) := by omega
    have c0 := (HI1.out.below hbel HI1.out.lt).cell hlt
    have d0 := (HI2.out.below hbel HI2.out.lt).cell hlt
    have a0 := HA.out i
    have b0 := HB.out i
    obtain ⟨⟨p1, p2⟩, hp⟩ : ∃ p, mt (cl L H U a m) (cl L H V b m) i = p := ⟨_, rfl⟩
    by_cases hs : min 1000000000000 (cl L H U a m i + cl L H V b m i) < p2
    · have HY : Hid (mt (cl L H U a m) (cl L H V b m) (i + 1) = ((i : Int), min 1000000000000 (cl L H U a m i + cl L H V b m i))) := mt_yes hp hs
      rw [hp]
      clear hp
      go_wp2
      go_quiet (first | (go_at_call 55; refine Calls.quiet_of_same (l1Add_any _ _ a0.1 a0.2 b0.1 b0.2 _)))
      go_wp2
      go_roundw
      case rel => exact ⟨i + 1, by omega, by go_num, by rw [HY.out], by rw [HY.out], below_drewN hbel _⟩
      case measure => simp [intOf]; omega
    · have HY : Hid (mt (cl L H U a m) (cl L H V b m) (i + 1) = (p1, p2)) := mt_no hp hs
      rw [hp]
      clear hp
      go_wp2
      go_quiet (first | (go_at_call 55; refine Calls.quiet_of_same (l1Add_any _ _ a0.1 a0.2 b0.1 b0.2 _)))
      go_wp2
      go_roundw
      case rel => exact ⟨i + 1, by omega, by go_num, by rw [HY.out], by rw [HY.out], below_drewN hbel _⟩
      case measure => simp [intOf]; omega

end Go.Proofs.YtokaechbmnbbiabGreat
