/-
  Helpers, merged: MetS, WtOk, CountTo, OrdImpl, Hier.
-/
import Derived.Test.YteibbknpcgcjjabGreatPack9
import Derived.Test.YteibbknpcgcjjabGreatPack12
import Derived.Test.YteibbknpcgcjjabGreatPack5
import Derived.Test.YteibbknpcgcjjabGreatPack4
import Derived.Deep.RegionHeld3
import Derived.Test.YteibbknpcgcjjabGreatPack7
import Derived.Test.YteibbknpcgcjjabGreatPack3
import Derived.Test.YteibbknpcgcjjabGreatPack1
import Derived.Test.YteibbknpcgcjjabGreatPack8
/-
  MetricOk, the document's, at every hierarchy and every metric.
-/
set_option linter.unusedVariables false
set_option linter.unusedSimpArgs false
namespace Go.Proofs.YteibbknpcgcjjabGreat
open Go.RowKit Go.Deep Go.Joins
attribute [local go_sem ↓] Go.wp_at_zero Go.wp_at_succ

set_option maxRecDepth 100000 in
set_option maxHeartbeats 4000000 in
theorem specMetricOk_any (po : Option Addr) (k pcap : Nat) (P : Nat → Int) (eo : Option Addr) (m ecap : Nat) (L H : Nat → Int) (uo : Option Addr) (u ucap : Nat) (U : Nat → Int) (vo : Option Addr) (v vcap : Nat) (V : Nat → Int) (hk : k ≤ 1048576) (hm : m ≤ 1048576) (hu : u ≤ 1048576) (hv : v ≤ 1048576) (w : World) (he : ERow w eo m L H) (hU : IRow w uo u U) (hV : IRow w vo v V) :
    Calls Tryz.prog 17 #[.agg #[.slice po k pcap, .slice eo m ecap], .agg #[.slice uo u ucap, .slice vo v vcap]] w fun e w' => BAns e (MOk k m L H u U v V) ∧ Below w.heap.size w w' := by
  by_cases hf : edgesB (k : Int) m L H = true ∧ u = m ∧ v = m
  rotate_left
  · have HN : Hid (¬ MOk k m L H u U v V) := fun x => hf ⟨x.1.1, x.2.1, x.2.2.1⟩
    go_enter Tryz.func17, Tryz.ntmps17
    go_wp2_with (go_at_call 51; refine (l5Fits_any po k pcap eo m ecap L H uo u ucap vo v vcap hk hm hu hv _ ((he.alloc _).alloc _)).mono ?_; rintro e w1 ⟨⟨b, rfl, hb⟩, hb1⟩; (obtain rfl : b = false := by cases b <;> simp_all))
    go_ret
    exact ⟨bans_no HN.out, unbox2 hb1 (by simp; omega)⟩
  obtain ⟨hf1, rfl, rfl⟩ := hf
  have HF : Hid (edgesB (k : Int) v L H = true) := hf1
  clear hf1
  by_cases hc : Chd (k : Int) v L H
  rotate_left
  · have HN : Hid (¬ Chd (k : Int) v L H) := hc
    clear hc
    go_enter Tryz.func17, Tryz.ntmps17
    go_wp2_with fail
    refine (l5Fits_any po k pcap eo v ecap L H uo v ucap vo v vcap hk hm hu hv _ ((he.alloc _).alloc _)).mono ?_
    rintro e w1 ⟨⟨b, rfl, hb⟩, hb1⟩
    obtain rfl : b = true := hb.2 ⟨HF.out, rfl, rfl⟩
    have hA1 := hb1.mono (B' := w.heap.size + 2) (by simp)
    obtain ⟨⟨q0, q1⟩, ⟨q2, q3⟩, q6⟩ := box2m hA1
    clear hb
    go_wp2_with fail
    refine (specChordal_any (k : Int) eo v ecap L H hm _ (((he.alloc _).alloc _).below hA1 (by simp))).mono ?_
    rintro e w2 ⟨⟨b, rfl, hb⟩, hb2⟩
    obtain rfl : b = false := by
      cases b
      · rfl
      · exact absurd (hb.1 rfl) HN.out
    clear hb
    go_wp2
    go_ret
    exact ⟨bans_no (fun x => HN.out x.1), unbox2 (below_next hA1 (by simp) hb2) (by omega)⟩
  have HC : Hid (Chd (k : Int) v L H) := hc
  clear hc
  go_enter Tryz.func17, Tryz.ntmps17
  go_wp2_with fail
  refine (l5Fits_any po k pcap eo v ecap L H uo v ucap vo v vcap hk hm hu hv _ ((he.alloc _).alloc _)).mono ?_
  rintro e w1 ⟨⟨b, rfl, hb⟩, hb1⟩
  obtain rfl : b = true := hb.2 ⟨HF.out, rfl, rfl⟩
  have hA1 := hb1.mono (B' := w.heap.size + 2) (by simp)
  obtain ⟨⟨q0, q1⟩, ⟨q2, q3⟩, q6⟩ := box2m hA1
  clear hb hb1
  go_wp2_with fail
  refine (specChordal_any (k : Int) eo v ecap L H hm _ (((he.alloc _).alloc _).below hA1 (by simp))).mono ?_
  rintro e w2 ⟨⟨b, rfl, hb⟩, hb2⟩
  obtain rfl : b = true := hb.2 HC.out
  have hA2 := below_next hA1 (by simp) hb2
  clear hb hb2 hA1 q0 q1 q2 q3 q6
  obtain ⟨⟨q0, q1⟩, ⟨q2, q3⟩, q6⟩ := box2m hA2
  have HER : Hid (ERow w2 eo v L H) := ((he.alloc _).alloc _).below hA2 (by simp)
  have HUR : Hid (IRow w2 uo v U) := ((hU.alloc _).alloc _).below hA2 (by simp)
  have HVR : Hid (IRow w2 vo v V) := ((hV.alloc _).alloc _).below hA2 (by simp)
  have HA2 : Hid (Below w.heap.size w w2) := unbox2 hA2 (by omega)
  have HQ0 : Hid (w2.cell? ⟨w.heap.size, 1, none⟩ = some (.slice eo v ecap) ∧ w2.cell? ⟨w.heap.size, 0, none⟩ = some (.slice po k pcap) ∧ w2.cell? ⟨w.heap.size + 1, 0, none⟩ = some (.slice uo v ucap) ∧ w2.cell? ⟨w.heap.size + 1, 1, none⟩ = some (.slice vo v vcap)) := ⟨q1, q0, q2, q3⟩
  clear hA2 he hU hV
  go_wp2
  go_loopw [5] (fun x wr => ∃ j : Nat, j ≤ v ∧ x = .int .i64 j ∧ (InF j U ∧ InF j V) ∧ Below w2.heap.size w2 wr) (fun x _ => v - (intOf x).toNat)
  case atStart => exact ⟨0, Nat.zero_le _, rfl, ⟨fun i hi => by omega, fun i hi => by omega⟩, Below.refl _ _⟩
  case round =>
    obtain ⟨j, hj, rfl, hall, hbel⟩ := hrel
    have HA : Hid (InF j U ∧ InF j V) := hall
    have q0' := keep_cell hbel (Nat.le_refl _) q0
    have q1' := keep_cell hbel (Nat.le_refl _) q1
    have q2' := keep_cell hbel (Nat.le_refl _) q2
    have q3' := keep_cell hbel (Nat.le_refl _) q3
    clear hall q0 q1 q2 q3
    by_cases hlt : j < v
    rotate_left
    · have hkn : j = v := by omega
      subst hkn
      have HIn : Hid (InF j U ∧ InF j V) := HA.out
      have HQ : Hid (w2.cell? ⟨w.heap.size, 1, none⟩ = some (.slice eo j ecap) ∧ w2.cell? ⟨w.heap.size, 0, none⟩ = some (.slice po k pcap) ∧ w2.cell? ⟨w.heap.size + 1, 0, none⟩ = some (.slice uo j ucap) ∧ w2.cell? ⟨w.heap.size + 1, 1, none⟩ = some (.slice vo j vcap)) := HQ0.out
      clear HA
      go_wp2
      go_loopw [6] (fun x wq => ∃ i : Nat, i ≤ j ∧ x = .int .i64 i ∧ (∀ t ∈ allT j L H i, okT U V t) ∧ Below w2.heap.size w2 wq) (fun x _ => j - (intOf x).toNat)
      case atStart => exact ⟨0, Nat.zero_le _, rfl, fun t ht => by simp [allT] at ht, hbel⟩
      case round =>
        clear hbel
        obtain ⟨i, hi, rfl, hall, hbel0⟩ := hrel
        have HALL : Hid (∀ t ∈ allT j L H i, okT U V t) := hall
        clear hall
        by_cases hlt2 : i < j
        rotate_left
        · have hin : i = j := by omega
          subst hin
          have HY : Hid (MOk k i L H i U i V) := ⟨HC.out, rfl, rfl, HIn.out.1, HIn.out.2, HALL.out⟩
          replace q1' := keep_cell hbel0 (Nat.le_refl _) HQ.out.1
          go_wp2
          go_ret
          exact ⟨bans_yes HY.out, below_next HA2.out (Nat.le_refl _) hbel0⟩
        have q1' := keep_cell hbel0 (Nat.le_refl _) HQ.out.1
        go_wp2
        clear q1'
        go_loopw [7] (fun x wq => ∃ (kk : Nat) (pre : List Tr), i < kk ∧ kk ≤ j ∧ x = .int .i64 kk ∧ (∀ t ∈ pre, okT U V t) ∧ pre ++ rowT j L H i (j - kk) kk = allT j L H (i + 1) ∧ Below w2.heap.size w2 wq) (fun x _ => j - (intOf x).toNat)
        case atStart => exact ⟨i + 1, allT j L H i, by omega, by omega, by go_num, HALL.out, rfl, hbel0⟩
        case round =>
          clear hbel0
          obtain ⟨kk, pre, hik, hk9, rfl, hpre, hall, hbel⟩ := hrel
          have HP : Hid ((∀ t ∈ pre, okT U V t) ∧ pre ++ rowT j L H i (j - kk) kk = allT j L H (i + 1)) := ⟨hpre, hall⟩
          have q0 := keep_cell hbel (Nat.le_refl _) HQ.out.2.1
          have q1 := keep_cell hbel (Nat.le_refl _) HQ.out.1
          have q2 := keep_cell hbel (Nat.le_refl _) HQ.out.2.2.1
          have q3 := keep_cell hbel (Nat.le_refl _) HQ.out.2.2.2
          clear hpre hall
          by_cases hkn : kk < j
          rotate_left
          · have e : kk = j := by omega
            have HN : Hid (∀ t ∈ allT j L H (i + 1), okT U V t) := fun t ht => by
              rw [← HP.out.2, rowT_stop (by omega), List.append_nil] at ht
              exact HP.out.1 t ht
            have hd : decide ((kk : Int) < (j : Int)) = false := by simp; omega
            go_wp2
            go_quiet (fail)
            go_wp2
            go_roundw
            case rel => exact ⟨i + 1, by omega, by go_num, HN.out, below_drewN hbel _⟩
            case measure => simp [intOf]; omega
          obtain ⟨b, o, hao, c0, c1⟩ := (HER.out.below hbel (Nat.le_refl _)) i hlt2
          obtain ⟨b', o', hao', d0, d1⟩ := (HER.out.below hbel (Nat.le_refl _)) kk hkn
          rw [hao] at hao'
          simp only [Option.some.injEq, Addr.mk.injEq, and_true] at hao'
          obtain ⟨rfl, rfl⟩ := hao'
          have hR := HER.out.below hbel (Nat.le_refl _)
          subst hao
          have hd : decide ((kk : Int) < (j : Int)) = true := by simp; omega
          have hk1 : (0 : Int) ≤ (kk : Int) := by omega
          have hk2 : (kk : Int) < (j : Int) := by omega
          have hi1 : (0 : Int) ≤ (i : Int) := by omega
          have hi2 : (i : Int) < (j : Int) := by omega
          by_cases hL : L kk = L i
          rotate_left
          · have HN : Hid (∀ t ∈ allT j L H (i + 1), okT U V t) := fun t ht => by
              rw [← HP.out.2, rowT_stop (by omega), List.append_nil] at ht
              exact HP.out.1 t ht
            have hLd : decide (L kk = L i) = false := by simpa using hL
            go_wp2
            go_quiet (fail)
            go_wp2
            go_roundw
            case rel => exact ⟨i + 1, by omega, by go_num, HN.out, below_drewN hbel _⟩
            case measure => simp [intOf]; omega
          have HED : Hid (edB (k : Int) L H j = true) := by
            have := HC.out.1
            simp [edgesB] at this
            exact this.2
          have HT : Hid (TOk j L H (i, kk, fnd L H (H i) (H kk) j)) := tok_of HED.out HC.out.2 hik hkn hL
          have HG : Hid (rowT j L H i (j - kk) kk = (i, kk, fnd L H (H i) (H kk) j) :: rowT j L H i (j - (kk + 1)) (kk + 1)) := rowT_go hkn hL
          rw [hL] at d0
          clear hL
          obtain ⟨E, hE⟩ : ∃ E, fnd L H (H i) (H kk) j = E := ⟨_, rfl⟩
          rw [hE] at HT HG
          clear hE
          have hEj : E < j := HT.out.2.2.1
          have HEu : Hid (∀ q, q < j → L q = H i → H q = H kk → q = E) := fun q hq h1 h2 => ed_once HED.out hq hEj (by rw [h1]; exact HT.out.2.2.2.2.2.1.symm) (by rw [h2]; exact HT.out.2.2.2.2.2.2.symm)
          go_wp2
          go_quiet (fail)
          have HB : Below w2.heap.size w2 (wr.drewN nq).drew := (below_drewN hbel _).drew
          have HR : ERow (wr.drewN nq).drew (some ⟨b, o, none⟩) j L H := hR.below ((below_drewN (Below.refl wr.heap.size wr) nq).drew) (Nat.le_refl _)
          clear hR hbel
          go_wp2_with fail
          go_region_held3 (fun w' => w'.cell? ⟨w.heap.size, 1, none⟩ = some (.slice (some ⟨b, o, none⟩) j ecap) ∧ w'.cell? ⟨b, o + i * 2 + 1, none⟩ = some (.int .i64 (H i)) ∧ w'.cell? ⟨b, o + kk * 2 + 1, none⟩ = some (.int .i64 (H kk)))
            (first | (go_split_ands; refine ⟨?_, ?_, ?_⟩ <;> exact keep_cell hb3 (Nat.le_refl _) (by assumption)) | go_keep)
            (first | (go_at_call 54; refine (l4Find_is _ j _ L H _ _ E hEj HT.out.2.2.2.2.2.1 HT.out.2.2.2.2.2.2 HEu.out hm _ HR).mono ?_; rintro e w3 ⟨rfl, hb3⟩))
          have HB3 := below_next HB (Nat.le_refl _) hb3
          clear HB HR c0 c1 d0 d1
          replace q2 := keep_cell hb3 (Nat.le_refl _) (keep_cell ((below_drewN (Below.refl wr.heap.size wr) nq).drew) (Nat.le_refl _) q2)
          replace q3 := keep_cell hb3 (Nat.le_refl _) (keep_cell ((below_drewN (Below.refl wr.heap.size wr) nq).drew) (Nat.le_refl _) q3)
          clear hb3 q0 q1
          obtain ⟨bu, ou, hao, u0⟩ := (HUR.out.below HB3 (Nat.le_refl _)) i hlt2
          obtain ⟨_, _, x1, u1⟩ := (HUR.out.below HB3 (Nat.le_refl _)) kk hkn
          obtain ⟨_, _, x2, u2⟩ := (HUR.out.below HB3 (Nat.le_refl _)) E hEj
          obtain ⟨bv, ov, hao', v0⟩ := (HVR.out.below HB3 (Nat.le_refl _)) i hlt2
          obtain ⟨_, _, x3, v1⟩ := (HVR.out.below HB3 (Nat.le_refl _)) kk hkn
          obtain ⟨_, _, x4, v2⟩ := (HVR.out.below HB3 (Nat.le_refl _)) E hEj
          rw [hao] at x1 x2
          rw [hao'] at x3 x4
          simp only [Option.some.injEq, Addr.mk.injEq, and_true] at x1 x2 x3 x4
          obtain ⟨rfl, rfl⟩ := x1
          obtain ⟨rfl, rfl⟩ := x2
          obtain ⟨rfl, rfl⟩ := x3
          obtain ⟨rfl, rfl⟩ := x4
          subst hao
          subst hao'
          have he1 : (0 : Int) ≤ (E : Int) := by omega
          have he2 : (E : Int) < (j : Int) := by omega
          obtain ⟨ui0, ui1⟩ := HIn.out.1 i hlt2
          obtain ⟨uk0, uk1⟩ := HIn.out.1 kk hkn
          obtain ⟨vi0, vi1⟩ := HIn.out.2 i hlt2
          obtain ⟨vk0, vk1⟩ := HIn.out.2 kk hkn
          by_cases ha : min 1000000000000 (V i + U kk) < U E
          · have HN : Hid (¬ MOk k j L H j U j V) := fun x => by
              have := (x.2.2.2.2.2 (i, kk, E) (by
                have : (i, kk, E) ∈ allT j L H (i + 1) := by rw [← HP.out.2, HG.out]; simp
                exact allT_mono (by omega) this)).1
              simp [upT] at this
              omega
            have hda : decide (min 1000000000000 (V i + U kk) < U E) = true := by simpa using ha
            go_wp2
            go_quiet (first | (go_at_call 55; refine Calls.quiet_of_same (l1Add_any _ _ (by assumption) (by assumption) (by assumption) (by assumption) _)))
            go_wp2
            go_ret
            exact ⟨bans_no HN.out, below_next HA2.out (Nat.le_refl _) (below_drewN HB3 _)⟩
          have hda : decide (min 1000000000000 (V i + U kk) < U E) = false := by simpa using ha
          by_cases hb : min 1000000000000 (V kk + U i) < V E
          · have HN : Hid (¬ MOk k j L H j U j V) := fun x => by
              have := (x.2.2.2.2.2 (i, kk, E) (by
                have : (i, kk, E) ∈ allT j L H (i + 1) := by rw [← HP.out.2, HG.out]; simp
                exact allT_mono (by omega) this)).2
              simp [dnT] at this
              omega
            have hdb : decide (min 1000000000000 (V kk + U i) < V E) = true := by simpa using hb
            go_wp2
            go_quiet (first | (go_at_call 55; refine Calls.quiet_of_same (l1Add_any _ _ (by assumption) (by assumption) (by assumption) (by assumption) _)))
            go_wp2
            go_ret
            exact ⟨bans_no HN.out, below_next HA2.out (Nat.le_refl _) (below_drewN HB3 _)⟩
          have hdb : decide (min 1000000000000 (V kk + U i) < V E) = false := by simpa using hb
          have HO : Hid (okT U V (i, kk, E)) := ⟨by simp only [upT]; omega, by simp only [dnT]; omega⟩
          go_wp2
          go_quiet (first | (go_at_call 55; refine Calls.quiet_of_same (l1Add_any _ _ (by assumption) (by assumption) (by assumption) (by assumption) _)))
          go_wp2
          go_roundw
          case rel => exact ⟨kk + 1, pre ++ [(i, kk, E)], by omega, by omega, by go_num, fun t ht => by
            rcases List.mem_append.1 ht with ht | ht
            · exact HP.out.1 t ht
            · rw [List.mem_singleton.1 ht]; exact HO.out, by rw [← HP.out.2, HG.out]; simp, below_drewN HB3 _⟩
          case measure => simp [intOf]; omega
    obtain ⟨bu, ou, hao, c0⟩ := (HUR.out.below hbel (Nat.le_refl _)) j hlt
    subst hao
    obtain ⟨bv, ov, hao', d0⟩ := (HVR.out.below hbel (Nat.le_refl _)) j hlt
    subst hao'
    have hk1 : (0 : Int) ≤ (j : Int) := by omega
    have hk2 : (j : Int) < (v : Int) := by omega
    have HB : Hid (∀ q, Below w.heap.size w (wr.drewN q)) := fun q => below_next HA2.out (Nat.le_refl _) (below_drewN hbel q)
    rcases Bool.eq_false_or_eq_true (inB (U j) 0 1000000000000) with h1 | h1
    rotate_left
    · have HN : Hid (¬ MOk k v L H v U v V) := fun x => by
        have := x.2.2.2.1 j hlt
        simp [inB] at h1
        omega
      go_wp2_with (go_at_call 53; refine (l1In_any _ _ _ _).mono ?_; rw [h1]; rintro e w3 ⟨rfl, hw3⟩; have hw4 := hw3.symm; subst hw4; clear hw3)
      go_ret
      exact ⟨bans_no HN.out, below_next HA2.out (Nat.le_refl _) hbel⟩
    rcases Bool.eq_false_or_eq_true (inB (V j) 0 1000000000000) with h2 | h2
    rotate_left
    · have HN : Hid (¬ MOk k v L H v U v V) := fun x => by
        have := x.2.2.2.2.1 j hlt
        simp [inB] at h2
        omega
      go_wp2_with fail
      refine (l1In_any (U j) _ _ _).mono ?_
      rw [h1]
      rintro e w3 ⟨rfl, hw3⟩
      have hw4 := hw3.symm
      subst hw4
      clear hw3
      go_wp2_with fail
      refine (l1In_any (V j) _ _ _).mono ?_
      rw [h2]
      rintro e w3 ⟨rfl, hw3⟩
      have hw4 := hw3.symm
      subst hw4
      clear hw3
      go_wp2
      go_ret
      exact ⟨bans_no HN.out, below_next HA2.out (Nat.le_refl _) hbel⟩
    have HI : Hid (InF (j + 1) U ∧ InF (j + 1) V) := by
      simp [inB] at h1 h2
      exact ⟨fun i hi => by
        by_cases e : i = j
        · subst e; exact h1
        · exact HA.out.1 i (by omega), fun i hi => by
        by_cases e : i = j
        · subst e; exact h2
        · exact HA.out.2 i (by omega)⟩
    go_wp2_with fail
    refine (l1In_any (U j) _ _ _).mono ?_
    rw [h1]
    rintro e w3 ⟨rfl, hw3⟩
    have hw4 := hw3.symm
    subst hw4
    clear hw3
    go_wp2_with fail
    refine (l1In_any (V j) _ _ _).mono ?_
    rw [h2]
    rintro e w3 ⟨rfl, hw3⟩
    have hw4 := hw3.symm
    subst hw4
    clear hw3
    go_wp2
    go_roundw
    case rel => exact ⟨j + 1, by omega, by go_num, HI.out, hbel⟩
    case measure => simp [intOf]; omega

end Go.Proofs.YteibbknpcgcjjabGreat

/-
  The program's weights in their bounds.
-/
set_option linter.unusedVariables false
set_option linter.unusedSimpArgs false
namespace Go.Proofs.YteibbknpcgcjjabGreat
open Go.RowKit
attribute [local go_sem ↓] Go.wp_at_zero Go.wp_at_succ

set_option maxHeartbeats 1000000 in
theorem weightsOk_any (ao : Option Addr) (n cap : Nat) (f : Nat → Int) (c : Nat) (hn : n ≤ 1048576) (hc : c ≤ 1048576) (w : World) (hr : IRow w ao n f) :
    Calls Tryz.prog 47 #[.slice ao n cap, .int .i64 (c : Int)] w fun e w' => BAns e (n = c ∧ InF c f) ∧ w' = w := by
  by_cases hnc : n = c
  rotate_left
  · have HN : Hid (¬ (n = c ∧ InF c f)) := fun h => hnc h.1
    have hnc' : ¬ (n : Int) = (c : Int) := by omega
    go_enter Tryz.func47, Tryz.ntmps47
    go_wp2
    go_ret
    exact ⟨bans_no HN.out, rfl⟩
  subst hnc
  refine (show Calls Tryz.prog 47 #[.slice ao n cap, .int .i64 (n : Int)] w (fun e w' => BAns e (InF n f) ∧ w' = w) from ?_).mono (fun e w' ⟨⟨b, h1, h2⟩, h3⟩ => ⟨⟨b, h1, h2.trans ⟨fun h => ⟨rfl, h⟩, fun h => h.2⟩⟩, h3⟩)
  go_enter Tryz.func47, Tryz.ntmps47
  go_wp2
  go_loop [13] (fun x => ∃ k : Nat, k ≤ n ∧ x = .int .i64 k ∧ InF k f) (fun x => n - (intOf x).toNat)
  case atStart => exact ⟨0, Nat.zero_le _, rfl, fun i hi => by omega⟩
  case round =>
    obtain ⟨k, hk, rfl, hall⟩ := hrel
    have HA : Hid (InF k f) := hall
    clear hall
    by_cases hlt : k < n
    rotate_left
    · have hkn : k = n := by omega
      subst hkn
      go_wp2
      go_ret
      exact ⟨bans_yes HA.out, rfl⟩
    obtain ⟨b, o, hao, c0⟩ := hr k hlt
    subst hao
    have hk1 : (0 : Int) ≤ (k : Int) := by omega
    have hk2 : (k : Int) < (n : Int) := by omega
    by_cases h1 : f k < 0
    · have HN : Hid (¬ InF n f) := fun h => by have := h k hlt; omega
      go_wp2
      go_ret
      exact ⟨bans_no HN.out, rfl⟩
    by_cases h2 : 1000000000000 < f k
    · have HN : Hid (¬ InF n f) := fun h => by have := h k hlt; omega
      go_wp2
      go_ret
      exact ⟨bans_no HN.out, rfl⟩
    have HI : Hid (InF (k + 1) f) := fun i hi => by
      by_cases e : i = k
      · subst e; omega
      · exact HA.out i (by omega)
    go_wp2
    go_roundw
    case rel => exact ⟨k + 1, by omega, by go_num, HI.out⟩
    case measure => simp [intOf]; omega

end Go.Proofs.YteibbknpcgcjjabGreat

/-
  The program's count of a place's neighbours, which leaves off at a limit.
-/
set_option linter.unusedVariables false
set_option linter.unusedSimpArgs false
namespace Go.Proofs.YteibbknpcgcjjabGreat
open Go.RowKit Go.Shelf
attribute [local go_sem] Oper.semAt_some

set_option maxRecDepth 100000 in
set_option maxHeartbeats 2000000 in
theorem countTo_any (bm p place limit : Nat) (B : Nat → Nat → Bool) (gone : Nat → Bool) (hp : p ≤ 24) (hpl : place < 24) (hl : limit ≤ 24) (w : World) (hM : MeshAt w bm (p : Int) B gone) :
    Calls Tryz.prog 123 #[.pointer (some ⟨bm, 0, none⟩), .int .i64 (place : Int), .int .i64 (limit : Int)] w fun e w' => e = .returned (.int .i64 (min (cntB (B place) p) limit : Nat)) ∧ Below w.heap.size w w' := by
  refine (callsIn_wide (n := 6)).1 ?_
  refine callsIn_of_wp_marks Tryz.func123 rfl trivial ?_ rfl
  simp only [Tryz.ntmps123, List.size_toArray, List.length_cons, List.length_nil, Nat.reduceAdd, Nat.reduceSub, Array.replicate_succ, Array.replicate_zero, List.push_toArray, List.append_toArray, List.nil_append, List.cons_append]
  gi_wp2
  refine wpIn_wide.2 (wp_scope_straight ((wpIn_wide (n := 6)).1 ?_))
  gi_wp2
  refine wpIn_label ?_
  gi_wp2_with (refine ⟨trivial, ?_⟩; gi_at_call 87; refine (callsIn_wide.2 (neighbours_any bm (place : Int) _)).mono ?_; rintro e w' ⟨rfl, rfl⟩)
  have hml := VHas.lt hM
  have bL := (((Boxed.new w 2 (.int .i64 (limit : Int))).alloc (.cells #[.int .i64 0] 2)).alloc (.cells #[.pointer (some ⟨bm, 0, none⟩)] 118)).alloc (.cells #[.int .i64 (place : Int)] 2)
  have bC := ((Boxed.new (w.alloc (.cells #[.int .i64 (limit : Int)] 2)) 2 (.int .i64 0)).alloc (.cells #[.pointer (some ⟨bm, 0, none⟩)] 118)).alloc (.cells #[.int .i64 (place : Int)] 2)
  have bA := (Boxed.new ((w.alloc (.cells #[.int .i64 (limit : Int)] 2)).alloc (.cells #[.int .i64 0] 2)) 118 (.pointer (some ⟨bm, 0, none⟩))).alloc (.cells #[.int .i64 (place : Int)] 2)
  have bP := Boxed.new (((w.alloc (.cells #[.int .i64 (limit : Int)] 2)).alloc (.cells #[.int .i64 0] 2)).alloc (.cells #[.pointer (some ⟨bm, 0, none⟩)] 118)) 2 (.int .i64 (place : Int))
  simp only [World.size_alloc] at bC bA bP
  have hB0 : Below w.heap.size w ((((w.alloc (.cells #[.int .i64 (limit : Int)] 2)).alloc (.cells #[.int .i64 0] 2)).alloc (.cells #[.pointer (some ⟨bm, 0, none⟩)] 118)).alloc (.cells #[.int .i64 (place : Int)] 2)) := ((((Below.refl _ w).alloc (Nat.le_refl _) _).alloc (by simp) _).alloc (by simp; omega) _).alloc (by simp; omega) _
  have hM0 := VHas.below hM hB0 hml
  have hsz : ((((w.alloc (.cells #[.int .i64 (limit : Int)] 2)).alloc (.cells #[.int .i64 0] 2)).alloc (.cells #[.pointer (some ⟨bm, 0, none⟩)] 118)).alloc (.cells #[.int .i64 (place : Int)] 2)).heap.size = w.heap.size + 4 := by simp
  generalize ((((w.alloc (.cells #[.int .i64 (limit : Int)] 2)).alloc (.cells #[.int .i64 0] 2)).alloc (.cells #[.pointer (some ⟨bm, 0, none⟩)] 118)).alloc (.cells #[.int .i64 (place : Int)] 2)) = W0 at bL bC bA bP hB0 hM0 hsz ⊢
  have hR0 : Reads (w.heap.size + 1 + 1) (w.heap.size + 1 + 1 + 1) bm p place W0 (B place) := Reads.of_mesh hpl bA.cell bP.cell hM0
  gi_wp2
  refine wpIn_rangeFunc_ownG rfl (by omega) (gf := 119) (lb := #[.pointer (some ⟨w.heap.size + 1 + 1, 0, none⟩), .pointer (some ⟨w.heap.size + 1 + 1 + 1, 0, none⟩)]) rfl trivial (enters_of Tryz.func119 (by kernel_rfl) rfl)
    (iter_stops 5 (by omega) (w.heap.size + 1 + 1) (w.heap.size + 1 + 1 + 1) bm p place (B place) hp hpl W0 hR0) (fun h k r => k (h r)) (fun W l o o' hl ho hc hw hR => hR.grown (grownBy_putObj' W l o') (fun r e => by cases e; exact ⟨o, ho, hc⟩)) (Below.refl _ _) (fun _ => rfl)
    (fun pre W => ((Boxed W (w.heap.size + 1) 2 (.int .i64 (pre.length : Int)) ∧ Boxed W w.heap.size 2 (.int .i64 (limit : Int))) ∧ pre.length ≤ limit) ∧ Below w.heap.size w W)
    (fun c pre W => ((c = .exit 0 ∧ pre.length = limit + 1) ∧ Boxed W (w.heap.size + 1) 2 (.int .i64 (limit : Int))) ∧ Below w.heap.size w W)
    (OwnFrom.and (OwnFrom.and (OwnFrom.and (Own.from (boxed_own _ _ (fun pre : List Nat => Value.int .i64 (pre.length : Int))) _) (Own.from (boxed_own _ _ _) _)) (ownFrom_pure _ (fun pre : List Nat => pre.length ≤ limit))) (ownFrom_below (Nat.le_refl _) (by omega)))
    (fun c => OwnFrom.and (OwnFrom.and (ownFrom_pure _ (fun pre : List Nat => c = .exit 0 ∧ pre.length = limit + 1)) (Own.from (boxed_own _ _ _) _)) (ownFrom_below (Nat.le_refl _) (by omega)))
    ⟨⟨⟨bC, bL⟩, by simp⟩, hB0⟩
    (fun x => { tmps := #[.pointer (some ⟨bm, 0, none⟩), .int .i64 (place : Int), .int .i64 (limit : Int), undef, undef, .pointer (some ⟨w.heap.size, 0, none⟩), .int .i64 0, .pointer (some ⟨w.heap.size + 1, 0, none⟩), .pointer (some ⟨bm, 0, none⟩), .int .i64 (place : Int), .func (.func 119) #[] #[.pointer (some ⟨w.heap.size + 1 + 1, 0, none⟩), .pointer (some ⟨w.heap.size + 1 + 1 + 1, 0, none⟩)], .int .i64 (x : Int), undef, undef, undef, undef, undef, undef], defers := [] }) ?assign ?body ?done ?stop
  case assign =>
    intro l x W K hK
    refine wpIn_skip ?_
    simpa [Exit.then] using hK
  case body =>
    rintro l pre x W ⟨⟨⟨bC1, bL1⟩, hle⟩, hB1⟩ _
    have cC := bC1.cell
    have fC := bC1.frozen
    have cL := bL1.cell
    have hK1 : KeepsFrom W0.heap.size W (W.setCell ⟨w.heap.size + 1, 0, none⟩ (.int .i64 ((pre.length : Int) + 1))) := (KeepsOthers.setCell _ _ _).from _
    by_cases hq : pre.length = limit
    · have hq' : ((pre.length : Int) == (limit : Int)) = true := by simp [hq]
      have hqi : (pre.length : Int) = (limit : Int) := by omega
      rw [hqi] at cC bC1
      gi_wp2
      exact ⟨KeepsFrom.refl _ _, ⟨⟨rfl, by simp [hq]⟩, bC1⟩, hB1⟩
    · have hq' : ¬ (pre.length : Int) = (limit : Int) := by omega
      gi_wp2
      refine ⟨hK1, fun r => ?_, ⟨⟨?_, bL1.other (by omega) _⟩, by simp; omega⟩, hB1.setCell (p := ⟨w.heap.size + 1, 0, none⟩) (by simp) _⟩
      · have hg := gr_setCell W (w.heap.size + 1) 0 (.int .i64 ((pre.length : Int) + 1))
        exact ⟨hg.cell r.rdM (by simp), hg.cell r.rdP (by simp; omega), hg.cell r.rdN (by simp; omega), fun j hj => hg.cell (r.rdR j hj) (by simp; omega)⟩
      · have := bC1.set (.int .i64 ((pre.length : Int) + 1))
        simpa using this
  case done =>
    rintro D ys W hD rfl ⟨⟨⟨bC1, bL1⟩, hle⟩, hB1⟩ hK
    have cC := bC1.cell
    gi_wp2
    refine ⟨by simp, .inl ⟨_, _, rfl, run_takeDeferred hK, ?_⟩⟩
    refine ⟨_, results_tmp rfl _ _ _, ?_, hB1.trans (belowK_b (w := w) (Nat.le_refl _) W D _ _ (by omega) hK rfl rfl)⟩
    rw [visF_len] at hle ⊢
    rw [Nat.min_eq_left hle]
    rfl
  case stop =>
    rintro D c pre W hD hSp ⟨⟨⟨rfl, hlen⟩, bC1⟩, hB1⟩ hK
    have cC := bC1.cell
    have hmin : min (cntB (B place) p) limit = limit := by
      obtain ⟨k, hk, hb, rfl⟩ := hSp
      rw [List.length_append, visF_len] at hlen
      simp at hlen
      have := cntB_mono (B place) (show k + 1 ≤ p by omega)
      rw [cntB_succ hb] at this
      omega
    gi_wp2
    refine ⟨by simp, .inl ⟨_, _, rfl, run_takeDeferred hK, ?_⟩⟩
    exact ⟨_, results_tmp rfl _ _ _, by rw [hmin]; rfl, hB1.trans (belowK_b (w := w) (Nat.le_refl _) W D _ _ (by omega) hK rfl rfl)⟩

end Go.Proofs.YteibbknpcgcjjabGreat

/-
  Order, the document's and the program's, at every map of at most 2^20 arcs: the same list, in new memory.
-/
set_option linter.unusedVariables false
set_option linter.unusedSimpArgs false
namespace Go.Proofs.YteibbknpcgcjjabGreat
open Go.RowKit
attribute [local go_sem ↓] Go.wp_at_zero Go.wp_at_succ

set_option maxHeartbeats 2000000 in
theorem next_any (bm p : Nat) (B : Nat → Nat → Bool) (gone : Nat → Bool) (hp : p ≤ 24) (w : World) (hM : MeshAt w bm (p : Int) B gone) :
    Calls Tryz.prog 98 #[.pointer (some ⟨bm, 0, none⟩)] w fun e w' => e = .returned (.int .i64 ((pick p B gone p).1 : Int)) ∧ Below w.heap.size w w' := by
  have hml := VHas.lt hM
  have c0 := hM.places
  go_enter Tryz.func98, Tryz.ntmps98
  go_wp2
  go_quiet (fail)
  have hMq : MeshAt (w.drewN nq) bm (p : Int) B gone := VHas.of_block hM rfl
  have hbq : Below w.heap.size w (w.drewN nq) := below_drewN (Below.refl _ _) nq
  generalize w.drewN nq = wq at hMq hbq ⊢
  have d0 := hMq.places
  clear c0
  go_wp2
  clear d0
  go_loopw [3, 4, 15] (fun x y i wr => ∃ j : Nat, j ≤ p ∧ x = .int .i64 ((pick p B gone j).1 : Int) ∧ y = .int .i64 ((pick p B gone j).2 : Int) ∧ i = .int .i64 j ∧ MeshAt wr bm (p : Int) B gone ∧ Below w.heap.size w wr) (fun _ _ i _ => p - (intOf i).toNat)
  case atStart => exact ⟨0, Nat.zero_le _, rfl, rfl, rfl, hMq, hbq⟩
  case round =>
    clear hMq hbq
    obtain ⟨j, hj, rfl, rfl, rfl, hMj, hbel⟩ := hrel
    have hple := pick_le (p := p) (B := B) (gone := gone) j
    by_cases hlt : j < p
    rotate_left
    · have hjp : j = p := by omega
      subst hjp
      go_wp2
      go_ret
      exact ⟨rfl, hbel⟩
    have hlt' : (j : Int) < (p : Int) := by omega
    have h24 : (j : Int) < 24 := by omega
    have c1 := hMj.gone (show j < 24 by omega)
    cases hg : gone j
    · rw [hg] at c1
      have hct := countTo_any bm p j (pick p B gone j).2 B gone hp (by omega) (by omega) wr hMj
      by_cases hc : cntB (B j) p < (pick p B gone j).2
      · have hpk : Hid (pick p B gone (j + 1) = (j, cntB (B j) p)) := by
          show (if gone j then _ else if cntB (B j) p < (pick p B gone j).2 then (j, cntB (B j) p) else _) = _
          rw [if_neg (by rw [hg]; simp), if_pos hc]
        rw [Nat.min_eq_left (Nat.le_of_lt hc)] at hct
        have hc' : (cntB (B j) p : Int) < ((pick p B gone j).2 : Int) := by omega
        go_wp2_with (go_at_call 123; refine hct.mono ?_; rintro e w2 ⟨rfl, hb2⟩)
        go_roundw
        case rel => exact ⟨j + 1, by omega, by rw [hpk.out], by rw [hpk.out], by go_num, VHas.next hMj hb2, below_next hbel (Nat.le_refl _) hb2⟩
        case measure => simp [intOf]; omega
      · have hpk : Hid (pick p B gone (j + 1) = pick p B gone j) := by
          show (if gone j then _ else if cntB (B j) p < (pick p B gone j).2 then (j, cntB (B j) p) else pick p B gone j) = _
          rw [if_neg (by rw [hg]; simp), if_neg hc]
        rw [Nat.min_eq_right (Nat.le_of_not_lt hc)] at hct
        go_wp2_with (go_at_call 123; refine hct.mono ?_; rintro e w2 ⟨rfl, hb2⟩)
        go_roundw
        case rel => exact ⟨j + 1, by omega, by rw [hpk.out], by rw [hpk.out], by go_num, VHas.next hMj hb2, below_next hbel (Nat.le_refl _) hb2⟩
        case measure => simp [intOf]; omega
    · rw [hg] at c1
      have hpk : Hid (pick p B gone (j + 1) = pick p B gone j) := by
        show (if gone j then pick p B gone j else _) = _
        rw [if_pos hg]
      go_wp2
      go_roundw
      case rel => exact ⟨j + 1, by omega, by rw [hpk.out], by rw [hpk.out], by go_num, hMj, hbel⟩
      case measure => simp [intOf]; omega
set_option maxHeartbeats 2000000 in
theorem implOrder_any (p : Int) (ao : Option Addr) (n cap : Nat) (F T G : Nat → Int) (hn : n ≤ 1048576) (w : World) (hr : Row w ao n F T G) :
    Calls Tryz.prog 40 #[.agg #[.int .i64 p, .slice ao n cap]] w fun e w' => Ans w w' e (lenO p n F T G) (listO p n F T) := by
  rcases Bool.eq_false_or_eq_true (graphB p n F T G) with h | h
  rotate_left
  · have hL : lenO p n F T G = 0 := by simp [lenO, h]
    rw [hL]
    go_enter Tryz.func40, Tryz.ntmps40
    go_wp2_with (go_at_call 39; refine (implGraphOk_any p ao n cap F T G hn _ (hr.alloc _)).mono ?_; rintro e w1 ⟨rfl, hb1⟩)
    go_ret
    exact ⟨_, _, rfl, fun h => by omega, unbox (hb1.alloc (by have := hb1.size; omega) _) (by simp)⟩
  have hpp : 1 ≤ p ∧ p ≤ 24 := by simpa [inB] using graphB_p h
  obtain ⟨pn, rfl⟩ : ∃ pn : Nat, p = (pn : Int) := ⟨p.toNat, by omega⟩
  have hL : lenO pn n F T G = pn := by simp [lenO, h]
  rw [hL]
  obtain ⟨⟨hp1, hp2⟩, hn1, hF, hT, hFT⟩ := ok_arcs h
  have hfair : Fair (nbA F T n) := fair_nbA n (fun k hk => by have := hF k hk; have := hT k hk; have := hFT k hk; omega)
  have hwi : Within pn (nbA F T n) := within_nbA n (fun k hk => by have := hF k hk; have := hT k hk; omega)
  have hmo := fun W hr' => meshOf_any pn ao n cap F T G hp2 hn1 hF hT hFT W hr'
  have hli : listO pn n F T = (run3 pn (nbA F T n) pn).2.2 := by simp [listO]
  rw [hli]
  generalize nbA F T n = B at hfair hwi hmo ⊢
  have HF : Hid (Fair B ∧ Within pn B) := ⟨hfair, hwi⟩
  have HMO : Hid (∀ W, Row W ao n F T G → Calls Tryz.prog 86 #[.agg #[.int .i64 (pn : Int), .slice ao n cap]] W fun e w' => ∃ bm, e = .returned (.pointer (some ⟨bm, 0, none⟩)) ∧ W.heap.size ≤ bm ∧ MeshAt w' bm (pn : Int) B (fun _ => false) ∧ Below W.heap.size W w') := hmo
  clear hL hF hT hFT hpp hfair hwi hmo hli
  go_enter Tryz.func40, Tryz.ntmps40
  go_wp2_with fail
  refine (implGraphOk_any pn ao n cap F T G hn _ (hr.alloc _)).mono ?_
  rintro e w1 ⟨rfl, hb1⟩
  have hA1 := boxed hb1
  obtain ⟨x0, x1, xs⟩ := box2 hA1
  rw [h]
  go_wp2_with fail
  refine (HMO.out _ ((hr.alloc _).below hA1 (by simp))).mono ?_
  rintro e w2 ⟨bm, rfl, hbm, hM2, hb2⟩
  have hA2 := below_next hA1 (by simp) hb2
  clear x0 x1 hA1 hb1
  obtain ⟨x0, x1, xs2⟩ := box2 hA2
  have hml := VHas.lt hM2
  have hmk := make_ints pn (by omega)
  have hA3 := hA2.alloc (o := .cells (madeCells #[.int .i64 0] pn) 2) (by omega)
  have hM3 := hM2.alloc (.cells (madeCells #[.int .i64 0] pn) 2)
  have hI3 := made_ints w2 pn
  clear hb2 hM2
  go_wp2_with fail
  clear hmk x0 x1
  go_loopw [17] (fun i wr => ∃ k : Nat, k ≤ pn ∧ i = .int .i64 k ∧ MeshAt wr bm (pn : Int) (run3 pn B k).1 (run3 pn B k).2.1 ∧ IHas wr w2.heap.size pn (run3 pn B k).2.2 ∧ Below (w.heap.size + 1) (w.alloc (.cells #[.int .i64 (pn : Int), .slice ao n cap] 26)) wr) (fun i _ => pn - (intOf i).toNat)
  case atStart => exact ⟨0, Nat.zero_le _, rfl, hM3, hI3, hA3⟩
  case round =>
    clear hM3 hI3 hA3 hA2
    obtain ⟨k, hk, rfl, hM, hI, hA⟩ := hrel
    by_cases hlt : k < pn
    rotate_left
    · have hkp : k = pn := by omega
      subst hkp
      go_wp2
      go_ret
      exact ⟨_, _, rfl, fun _ => ⟨_, rfl, by omega, hI⟩, unbox hA (by omega)⟩
    have hlt' : (k : Int) < (pn : Int) := by omega
    have hpl := run3_place HF.out.1 hlt
    have hfk := run3_fair (p := pn) HF.out.1 k
    have hwk := within_run3 HF.out.2 k
    have e1 := run3_sq pn B k
    have e2 := run3_gn pn B k
    have e3 := run3_ls pn B k
    have hnx := next_any bm pn _ _ hp2 wr hM
    have E1 : Hid ((run3 pn B (k + 1)).1 = tk (run3 pn B k).1 (pick pn (run3 pn B k).1 (run3 pn B k).2.1 pn).1 ∧ (run3 pn B (k + 1)).2.1 = goneU (run3 pn B k).2.1 (pick pn (run3 pn B k).1 (run3 pn B k).2.1 pn).1 ∧ (run3 pn B (k + 1)).2.2 = fun j => if j = k then ((pick pn (run3 pn B k).1 (run3 pn B k).2.1 pn).1 : Int) else (run3 pn B k).2.2 j) := ⟨e1, e2, e3⟩
    clear e1 e2 e3
    generalize (pick pn (run3 pn B k).1 (run3 pn B k).2.1 pn).1 = a at hpl hnx E1
    go_wp2_with fail
    refine hnx.mono ?_
    rintro e w3 ⟨rfl, hb3⟩
    have hM3 := VHas.next hM hb3
    have hI3 := hI.below hb3 hI.lt
    have hA3 := below_next hA (by simp) hb3
    clear hM hI hA hb3 hnx
    have d0 := hI3.cell hlt
    have z0 := hI3.frozen k
    have hne : bm ≠ w2.heap.size := by omega
    have hM4 := VHas.other (i := k) hM3 hne (.int .i64 (a : Int))
    have hI4 := hI3.set k (a : Int)
    have hA4 := hA3.setCell (p := ⟨w2.heap.size, k, none⟩) (by simp; omega) (.int .i64 (a : Int))
    clear hM3 hI3 hA3
    go_wp2_with fail
    refine (takeAway_any bm pn a _ _ hp2 hpl hfk hwk _ hM4).mono ?_
    rintro e w5 ⟨rfl, hM5, hg5⟩
    have hI5 := hI4.grown hg5 (by simp; omega)
    have hA5 := hA4.trans (gr_below hg5 (by omega) (by have := hA4.size; simpa using this))
    clear hM4 hI4 hA4 hg5 d0 z0
    go_wp2
    go_roundw
    case rel => exact ⟨k + 1, by omega, by go_num, by rw [E1.out.1, E1.out.2.1]; exact hM5, by rw [E1.out.2.2]; exact hI5, hA5⟩
    case measure => simp [intOf]; omega

end Go.Proofs.YteibbknpcgcjjabGreat

/-
  NewHier, the document's and the program's: an order, and the fill by it, in new memory.
-/
set_option linter.unusedVariables false
set_option linter.unusedSimpArgs false
namespace Go.Proofs.YteibbknpcgcjjabGreat
open Go.RowKit
attribute [local go_sem ↓] Go.wp_at_zero Go.wp_at_succ

set_option maxHeartbeats 1000000 in
theorem implNewHier_any (p : Int) (ao : Option Addr) (n cap : Nat) (F T G : Nat → Int) (hn : n ≤ 1048576) (w : World) (hr : Row w ao n F T G) :
    Calls Tryz.prog 13 #[.agg #[.int .i64 p, .slice ao n cap]] w fun e w' => HAns w w' e (lenO p n F T G) (listO p n F T) (lenF p n F T G (lenO p n F T G) (listO p n F T)) (Lf (lstF p n F T (listO p n F T))) (Hf (lstF p n F T (listO p n F T))) := by
  rcases Bool.eq_false_or_eq_true (graphB p n F T G) with h | h
  rotate_left
  · have h1 : lenO p n F T G = 0 := by simp [lenO, h]
    have h2 : lenF p n F T G (lenO p n F T G) (listO p n F T) = 0 := by simp [lenF, ordB, h]
    rw [h2, h1]
    go_enter Tryz.func13, Tryz.ntmps13
    go_wp2_with (go_at_call 39; refine (implGraphOk_any p ao n cap F T G hn _ ((hr.alloc _).alloc _)).mono ?_; rintro e w1 ⟨rfl, hb1⟩; obtain ⟨⟨q0, q1⟩, ⟨q2, q3⟩, ⟨q4, q5⟩, q6⟩ := box22 (hb1.mono (by simp)))
    exact bodyPost_ret (v := .agg #[.slice none 0 0, .slice none 0 0]) (by simp [results, Tryz.results13, go_sem, q2, q3, q4, q5]) rfl ⟨_, _, _, _, rfl, fun h => by omega, fun h => by omega, by simp [World.setCell]; omega, ret_below (unbox2 hb1 (by simp; omega)) (by simp) _ _⟩
  have hm := lenO_le p n F T G
  have hA := fun ao' cap' W hr' => implOrder_any p ao' n cap' F T G hn W hr'
  have hB := fun ao' cap' po' pcap' W hr' hp' => implFill_any p ao' n cap' F T G po' (lenO p n F T G) pcap' (listO p n F T) hn (by omega) W hr' hp'
  generalize lenF p n F T G (lenO p n F T G) (listO p n F T) = k at hB ⊢
  generalize Lf (lstF p n F T (listO p n F T)) = L at hB ⊢
  generalize Hf (lstF p n F T (listO p n F T)) = H at hB ⊢
  generalize lenO p n F T G = m at hA hB hm ⊢
  generalize listO p n F T = D at hA hB ⊢
  have HO : Hid (∀ ao' cap' W, Row W ao' n F T G → Calls Tryz.prog 40 #[.agg #[.int .i64 p, .slice ao' n cap']] W fun e w' => Ans W w' e m D) := hA
  have HF : Hid (∀ ao' cap' po' pcap' W, Row W ao' n F T G → IRow W po' m D → Calls Tryz.prog 35 #[.agg #[.int .i64 p, .slice ao' n cap'], .slice po' m pcap'] W fun e w' => EAns W w' e k L H) := hB
  clear hA hB
  go_enter Tryz.func13, Tryz.ntmps13
  go_wp2_with fail
  refine (implGraphOk_any p ao n cap F T G hn _ ((hr.alloc _).alloc _)).mono ?_
  rw [h]
  rintro e w1 ⟨rfl, hb1⟩
  have hA1 := hb1.mono (B' := w.heap.size + 2) (by simp)
  obtain ⟨⟨q0, q1⟩, ⟨q2, q3⟩, ⟨q4, q5⟩, q6⟩ := box22 hA1
  clear hb1
  go_wp2_with fail
  refine (HO.out _ _ _ (((hr.alloc _).alloc _).below hA1 (by simp))).mono ?_
  rintro e w2 ⟨aoD, capD, rfl, hD, hb2⟩
  have hA2 := below_next hA1 (by simp) hb2
  clear q0 q1 q2 q3 q4 q5 q6
  obtain ⟨⟨q0, q1⟩, ⟨q2, q3⟩, ⟨q4, q5⟩, q6⟩ := box22 hA2
  have hrD : IRow w2 aoD m D := fun j hj => by
    obtain ⟨g, e, _, hI⟩ := hD (by omega)
    subst e
    exact hI.row j hj
  go_wp2_with fail
  refine (HF.out _ _ _ _ _ (((hr.alloc _).alloc _).below hA2 (by simp)) hrD).mono ?_
  rintro e w3 ⟨aoE, capE, rfl, hE, hb3⟩
  have hA3 := below_next hA2 (by simp) hb3
  clear q0 q1 q2 q3 q4 q5 q6
  have s1 := hA1.size
  have s2 := hA2.size
  simp only [World.size_alloc] at s1 s2
  obtain ⟨⟨q0, q1⟩, ⟨q2, q3⟩, ⟨q4, q5⟩, q6⟩ := box22 hA3
  go_wp2
  refine bodyPost_ret (v := .agg #[.slice aoD m capD, .slice aoE k capE]) (by simp [results, Tryz.results13, go_sem, q2, q3, q4, q5]) rfl ⟨_, _, _, _, rfl, fun h => ?_, fun h => ?_, by simp [World.setCell]; omega, ret_below (unbox2 hA3 (by simp)) (by simp) _ _⟩
  · obtain ⟨g, e, hg, hI⟩ := hD h
    exact ⟨g, e, by omega, (hI.below hb3 hI.lt).of_block (ret_block _ _ (by omega))⟩
  · obtain ⟨g, e, hg, hI⟩ := hE h
    exact ⟨g, e, by omega, hI.of_block (ret_block _ _ (by omega))⟩

end Go.Proofs.YteibbknpcgcjjabGreat
