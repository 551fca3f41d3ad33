/-
  Helpers, merged: MetS, MetI, Keys, EdMap, Rounds, ChdImpl, TriIt, Rank, Mesh, Nbrs.
-/
import Derived.Test.YtdgnlpafmkhdjahPack1
import Derived.Deep.RegionHeld3
import Derived.Maps.Own
import Derived.Maps.OwnOps
import Derived.Maps.OwnSet
import Derived.Maps.Views
import Derived.DeepKeys4
import Derived.Test.YtdgnlpafmkhdjahRows
import Derived.RangeFuncNested
import Derived.RangeFuncBound
import Derived.RangeFuncCalls
import Derived.RangeFuncLeaves
import Derived.Shelf.Abstract
import Derived.Shelf.RegionOpen
import Derived.WalkKit
import Derived.OwnWalkIn
import Derived.TacticsInMore
import Derived.LoopNIn
import Derived.LoopIn
import Derived.Sort.QuietIn
/-
  MetricOk, the document's, at every hierarchy and every metric.
-/
set_option linter.unusedVariables false
set_option linter.unusedSimpArgs false
namespace Go.Proofs.Ytdgnlpafmkhdjah
open Go.RowKit Go.Deep Go.Joins
attribute [local go_sem ↓] Go.wp_at_zero Go.wp_at_succ

/-- What is asked of a metric. -/
def MOk (k m : Nat) (L H : Nat → Int) (u : Nat) (U : Nat → Int) (v : Nat) (V : Nat → Int) : Prop := Chd (k : Int) m L H ∧ u = m ∧ v = m ∧ InF m U ∧ InF m V ∧ ∀ t ∈ allT m L H m, okT U V t

theorem box2m {w W : World} {a0 a1 c0 c1 : Value} {s t : TypeId} (h : Below (w.heap.size + 2) ((w.alloc (.cells #[a0, a1] s)).alloc (.cells #[c0, c1] t)) W) :
    (W.cell? ⟨w.heap.size, 0, none⟩ = some a0 ∧ W.cell? ⟨w.heap.size, 1, none⟩ = some a1) ∧ (W.cell? ⟨w.heap.size + 1, 0, none⟩ = some c0 ∧ W.cell? ⟨w.heap.size + 1, 1, none⟩ = some c1) ∧ w.heap.size + 2 ≤ W.heap.size := by
  obtain ⟨h1, h2, _, h4⟩ := box22 h
  exact ⟨h1, h2, h4⟩

set_option maxHeartbeats 1000000 in
theorem l5Fits_any (po : Option Addr) (k pcap : Nat) (eo : Option Addr) (m ecap : Nat) (L H : Nat → Int) (uo : Option Addr) (u ucap : Nat) (vo : Option Addr) (v vcap : Nat) (hk : k ≤ 1048576) (hm : m ≤ 1048576) (hu : u ≤ 1048576) (hv : v ≤ 1048576) (w : World) (he : ERow w eo m L H) :
    Calls Try.prog 44 #[.agg #[.slice po k pcap, .slice eo m ecap], .agg #[.slice uo u ucap, .slice vo v vcap]] w fun e w' => BAns e (edgesB (k : Int) m L H = true ∧ u = m ∧ v = m) ∧ Below w.heap.size w w' := by
  rcases Bool.eq_false_or_eq_true (edgesB (k : Int) m L H) with h | h
  rotate_left
  · have HN : Hid (¬ (edgesB (k : Int) m L H = true ∧ u = m ∧ v = m)) := fun x => by rw [x.1] at h; cases h
    go_enter Try.func44, Try.ntmps44
    go_wp2_with (go_at_call 81; refine (l4Edges_any (k : Int) eo m ecap L H hm _ ((he.alloc _).alloc _)).mono ?_; rw [h]; rintro e w1 ⟨rfl, hb1⟩)
    go_ret
    exact ⟨bans_no HN.out, unbox2 hb1 (by simp; omega)⟩
  go_enter Try.func44, Try.ntmps44
  go_wp2_with fail
  refine (l4Edges_any (k : Int) eo m ecap L H hm _ ((he.alloc _).alloc _)).mono ?_
  rw [h]
  rintro e w1 ⟨rfl, hb1⟩
  have hA1 := hb1.mono (B' := w.heap.size + 2) (by simp)
  obtain ⟨⟨q0, q1⟩, ⟨q2, q3⟩, q6⟩ := box2m hA1
  by_cases h1 : (u : Int) = (m : Int)
  rotate_left
  · have HN : Hid (¬ (edgesB (k : Int) m L H = true ∧ u = m ∧ v = m)) := fun x => by omega
    go_wp2
    go_ret
    exact ⟨bans_no HN.out, unbox2 hb1 (by simp; omega)⟩
  by_cases h2 : (v : Int) = (m : Int)
  · have HY : Hid (edgesB (k : Int) m L H = true ∧ u = m ∧ v = m) := ⟨h, by omega, by omega⟩
    go_wp2
    go_ret
    exact ⟨bans_yes HY.out, unbox2 hb1 (by simp; omega)⟩
  · have HN : Hid (¬ (edgesB (k : Int) m L H = true ∧ u = m ∧ v = m)) := fun x => by omega
    have hd : ((v : Int) == (m : Int)) = false := by simpa using h2
    go_wp2
    go_ret
    exact ⟨bans_no HN.out, unbox2 hb1 (by simp; omega)⟩

set_option maxRecDepth 100000 in
set_option maxHeartbeats 4000000 in
theorem specMetricOk_any (po : Option Addr) (k pcap : Nat) (P : Nat → Int) (eo : Option Addr) (m ecap : Nat) (L H : Nat → Int) (uo : Option Addr) (u ucap : Nat) (U : Nat → Int) (vo : Option Addr) (v vcap : Nat) (V : Nat → Int) (hk : k ≤ 1048576) (hm : m ≤ 1048576) (hu : u ≤ 1048576) (hv : v ≤ 1048576) (w : World) (he : ERow w eo m L H) (hU : IRow w uo u U) (hV : IRow w vo v V) :
    Calls Try.prog 11 #[.agg #[.slice po k pcap, .slice eo m ecap], .agg #[.slice uo u ucap, .slice vo v vcap]] w fun e w' => BAns e (MOk k m L H u U v V) ∧ Below w.heap.size w w' := by
  by_cases hf : edgesB (k : Int) m L H = true ∧ u = m ∧ v = m
  rotate_left
  · have HN : Hid (¬ MOk k m L H u U v V) := fun x => hf ⟨x.1.1, x.2.1, x.2.2.1⟩
    go_enter Try.func11, Try.ntmps11
    go_wp2_with (go_at_call 44; refine (l5Fits_any po k pcap eo m ecap L H uo u ucap vo v vcap hk hm hu hv _ ((he.alloc _).alloc _)).mono ?_; rintro e w1 ⟨⟨b, rfl, hb⟩, hb1⟩; (obtain rfl : b = false := by cases b <;> simp_all))
    go_ret
    exact ⟨bans_no HN.out, unbox2 hb1 (by simp; omega)⟩
  obtain ⟨hf1, rfl, rfl⟩ := hf
  have HF : Hid (edgesB (k : Int) v L H = true) := hf1
  clear hf1
  by_cases hc : Chd (k : Int) v L H
  rotate_left
  · have HN : Hid (¬ Chd (k : Int) v L H) := hc
    clear hc
    go_enter Try.func11, Try.ntmps11
    go_wp2_with fail
    refine (l5Fits_any po k pcap eo v ecap L H uo v ucap vo v vcap hk hm hu hv _ ((he.alloc _).alloc _)).mono ?_
    rintro e w1 ⟨⟨b, rfl, hb⟩, hb1⟩
    obtain rfl : b = true := hb.2 ⟨HF.out, rfl, rfl⟩
    have hA1 := hb1.mono (B' := w.heap.size + 2) (by simp)
    obtain ⟨⟨q0, q1⟩, ⟨q2, q3⟩, q6⟩ := box2m hA1
    clear hb
    go_wp2_with fail
    refine (specChordal_any (k : Int) eo v ecap L H hm _ (((he.alloc _).alloc _).below hA1 (by simp))).mono ?_
    rintro e w2 ⟨⟨b, rfl, hb⟩, hb2⟩
    obtain rfl : b = false := by
      cases b
      · rfl
      · exact absurd (hb.1 rfl) HN.out
    clear hb
    go_wp2
    go_ret
    exact ⟨bans_no (fun x => HN.out x.1), unbox2 (below_next hA1 (by simp) hb2) (by omega)⟩
  have HC : Hid (Chd (k : Int) v L H) := hc
  clear hc
  go_enter Try.func11, Try.ntmps11
  go_wp2_with fail
  refine (l5Fits_any po k pcap eo v ecap L H uo v ucap vo v vcap hk hm hu hv _ ((he.alloc _).alloc _)).mono ?_
  rintro e w1 ⟨⟨b, rfl, hb⟩, hb1⟩
  obtain rfl : b = true := hb.2 ⟨HF.out, rfl, rfl⟩
  have hA1 := hb1.mono (B' := w.heap.size + 2) (by simp)
  obtain ⟨⟨q0, q1⟩, ⟨q2, q3⟩, q6⟩ := box2m hA1
  clear hb hb1
  go_wp2_with fail
  refine (specChordal_any (k : Int) eo v ecap L H hm _ (((he.alloc _).alloc _).below hA1 (by simp))).mono ?_
  rintro e w2 ⟨⟨b, rfl, hb⟩, hb2⟩
  obtain rfl : b = true := hb.2 HC.out
  have hA2 := below_next hA1 (by simp) hb2
  clear hb hb2 hA1 q0 q1 q2 q3 q6
  obtain ⟨⟨q0, q1⟩, ⟨q2, q3⟩, q6⟩ := box2m hA2
  have HER : Hid (ERow w2 eo v L H) := ((he.alloc _).alloc _).below hA2 (by simp)
  have HUR : Hid (IRow w2 uo v U) := ((hU.alloc _).alloc _).below hA2 (by simp)
  have HVR : Hid (IRow w2 vo v V) := ((hV.alloc _).alloc _).below hA2 (by simp)
  have HA2 : Hid (Below w.heap.size w w2) := unbox2 hA2 (by omega)
  have HQ0 : Hid (w2.cell? ⟨w.heap.size, 1, none⟩ = some (.slice eo v ecap) ∧ w2.cell? ⟨w.heap.size, 0, none⟩ = some (.slice po k pcap) ∧ w2.cell? ⟨w.heap.size + 1, 0, none⟩ = some (.slice uo v ucap) ∧ w2.cell? ⟨w.heap.size + 1, 1, none⟩ = some (.slice vo v vcap)) := ⟨q1, q0, q2, q3⟩
  clear hA2 he hU hV
  go_wp2
  go_loopw [5] (fun x wr => ∃ j : Nat, j ≤ v ∧ x = .int .i64 j ∧ (InF j U ∧ InF j V) ∧ Below w2.heap.size w2 wr) (fun x _ => v - (intOf x).toNat)
  case atStart => exact ⟨0, Nat.zero_le _, rfl, ⟨fun i hi => by omega, fun i hi => by omega⟩, Below.refl _ _⟩
  case round =>
    obtain ⟨j, hj, rfl, hall, hbel⟩ := hrel
    have HA : Hid (InF j U ∧ InF j V) := hall
    have q0' := keep_cell hbel (Nat.le_refl _) q0
    have q1' := keep_cell hbel (Nat.le_refl _) q1
    have q2' := keep_cell hbel (Nat.le_refl _) q2
    have q3' := keep_cell hbel (Nat.le_refl _) q3
    clear hall q0 q1 q2 q3
    by_cases hlt : j < v
    rotate_left
    · have hkn : j = v := by omega
      subst hkn
      have HIn : Hid (InF j U ∧ InF j V) := HA.out
      have HQ : Hid (w2.cell? ⟨w.heap.size, 1, none⟩ = some (.slice eo j ecap) ∧ w2.cell? ⟨w.heap.size, 0, none⟩ = some (.slice po k pcap) ∧ w2.cell? ⟨w.heap.size + 1, 0, none⟩ = some (.slice uo j ucap) ∧ w2.cell? ⟨w.heap.size + 1, 1, none⟩ = some (.slice vo j vcap)) := HQ0.out
      clear HA
      go_wp2
      go_loopw [6] (fun x wq => ∃ i : Nat, i ≤ j ∧ x = .int .i64 i ∧ (∀ t ∈ allT j L H i, okT U V t) ∧ Below w2.heap.size w2 wq) (fun x _ => j - (intOf x).toNat)
      case atStart => exact ⟨0, Nat.zero_le _, rfl, fun t ht => by simp [allT] at ht, hbel⟩
      case round =>
        clear hbel
        obtain ⟨i, hi, rfl, hall, hbel0⟩ := hrel
        have HALL : Hid (∀ t ∈ allT j L H i, okT U V t) := hall
        clear hall
        by_cases hlt2 : i < j
        rotate_left
        · have hin : i = j := by omega
          subst hin
          have HY : Hid (MOk k i L H i U i V) := ⟨HC.out, rfl, rfl, HIn.out.1, HIn.out.2, HALL.out⟩
          replace q1' := keep_cell hbel0 (Nat.le_refl _) HQ.out.1
          go_wp2
          go_ret
          exact ⟨bans_yes HY.out, below_next HA2.out (Nat.le_refl _) hbel0⟩
        have q1' := keep_cell hbel0 (Nat.le_refl _) HQ.out.1
        go_wp2
        clear q1'
        go_loopw [7] (fun x wq => ∃ (kk : Nat) (pre : List Tr), i < kk ∧ kk ≤ j ∧ x = .int .i64 kk ∧ (∀ t ∈ pre, okT U V t) ∧ pre ++ rowT j L H i (j - kk) kk = allT j L H (i + 1) ∧ Below w2.heap.size w2 wq) (fun x _ => j - (intOf x).toNat)
        case atStart => exact ⟨i + 1, allT j L H i, by omega, by omega, by go_num, HALL.out, rfl, hbel0⟩
        case round =>
          clear hbel0
          obtain ⟨kk, pre, hik, hk9, rfl, hpre, hall, hbel⟩ := hrel
          have HP : Hid ((∀ t ∈ pre, okT U V t) ∧ pre ++ rowT j L H i (j - kk) kk = allT j L H (i + 1)) := ⟨hpre, hall⟩
          have q0 := keep_cell hbel (Nat.le_refl _) HQ.out.2.1
          have q1 := keep_cell hbel (Nat.le_refl _) HQ.out.1
          have q2 := keep_cell hbel (Nat.le_refl _) HQ.out.2.2.1
          have q3 := keep_cell hbel (Nat.le_refl _) HQ.out.2.2.2
          clear hpre hall
          by_cases hkn : kk < j
          rotate_left
          · have e : kk = j := by omega
            have HN : Hid (∀ t ∈ allT j L H (i + 1), okT U V t) := fun t ht => by
              rw [← HP.out.2, rowT_stop (by omega), List.append_nil] at ht
              exact HP.out.1 t ht
            have hd : decide ((kk : Int) < (j : Int)) = false := by simp; omega
            go_wp2
            go_quiet (fail)
            go_wp2
            go_roundw
            case rel => exact ⟨i + 1, by omega, by go_num, HN.out, below_drewN hbel _⟩
            case measure => simp [intOf]; omega
          obtain ⟨b, o, hao, c0, c1⟩ := (HER.out.below hbel (Nat.le_refl _)) i hlt2
          obtain ⟨b', o', hao', d0, d1⟩ := (HER.out.below hbel (Nat.le_refl _)) kk hkn
          rw [hao] at hao'
          simp only [Option.some.injEq, Addr.mk.injEq, and_true] at hao'
          obtain ⟨rfl, rfl⟩ := hao'
          have hR := HER.out.below hbel (Nat.le_refl _)
          subst hao
          have hd : decide ((kk : Int) < (j : Int)) = true := by simp; omega
          have hk1 : (0 : Int) ≤ (kk : Int) := by omega
          have hk2 : (kk : Int) < (j : Int) := by omega
          have hi1 : (0 : Int) ≤ (i : Int) := by omega
          have hi2 : (i : Int) < (j : Int) := by omega
          by_cases hL : L kk = L i
          rotate_left
          · have HN : Hid (∀ t ∈ allT j L H (i + 1), okT U V t) := fun t ht => by
              rw [← HP.out.2, rowT_stop (by omega), List.append_nil] at ht
              exact HP.out.1 t ht
            have hLd : decide (L kk = L i) = false := by simpa using hL
            go_wp2
            go_quiet (fail)
            go_wp2
            go_roundw
            case rel => exact ⟨i + 1, by omega, by go_num, HN.out, below_drewN hbel _⟩
            case measure => simp [intOf]; omega
          have HED : Hid (edB (k : Int) L H j = true) := by
            have := HC.out.1
            simp [edgesB] at this
            exact this.2
          have HT : Hid (TOk j L H (i, kk, fnd L H (H i) (H kk) j)) := tok_of HED.out HC.out.2 hik hkn hL
          have HG : Hid (rowT j L H i (j - kk) kk = (i, kk, fnd L H (H i) (H kk) j) :: rowT j L H i (j - (kk + 1)) (kk + 1)) := rowT_go hkn hL
          rw [hL] at d0
          clear hL
          obtain ⟨E, hE⟩ : ∃ E, fnd L H (H i) (H kk) j = E := ⟨_, rfl⟩
          rw [hE] at HT HG
          clear hE
          have hEj : E < j := HT.out.2.2.1
          have HEu : Hid (∀ q, q < j → L q = H i → H q = H kk → q = E) := fun q hq h1 h2 => ed_once HED.out hq hEj (by rw [h1]; exact HT.out.2.2.2.2.2.1.symm) (by rw [h2]; exact HT.out.2.2.2.2.2.2.symm)
          go_wp2
          go_quiet (fail)
          have HB : Below w2.heap.size w2 (wr.drewN nq).drew := (below_drewN hbel _).drew
          have HR : ERow (wr.drewN nq).drew (some ⟨b, o, none⟩) j L H := hR.below ((below_drewN (Below.refl wr.heap.size wr) nq).drew) (Nat.le_refl _)
          clear hR hbel
          go_wp2_with fail
          go_region_held3 (fun w' => w'.cell? ⟨w.heap.size, 1, none⟩ = some (.slice (some ⟨b, o, none⟩) j ecap) ∧ w'.cell? ⟨b, o + i * 2 + 1, none⟩ = some (.int .i64 (H i)) ∧ w'.cell? ⟨b, o + kk * 2 + 1, none⟩ = some (.int .i64 (H kk)))
            (first | (go_split_ands; refine ⟨?_, ?_, ?_⟩ <;> exact keep_cell hb3 (Nat.le_refl _) (by assumption)) | go_keep)
            (first | (go_at_call 47; refine (l4Find_is _ j _ L H _ _ E hEj HT.out.2.2.2.2.2.1 HT.out.2.2.2.2.2.2 HEu.out hm _ HR).mono ?_; rintro e w3 ⟨rfl, hb3⟩))
          have HB3 := below_next HB (Nat.le_refl _) hb3
          clear HB HR c0 c1 d0 d1
          replace q2 := keep_cell hb3 (Nat.le_refl _) (keep_cell ((below_drewN (Below.refl wr.heap.size wr) nq).drew) (Nat.le_refl _) q2)
          replace q3 := keep_cell hb3 (Nat.le_refl _) (keep_cell ((below_drewN (Below.refl wr.heap.size wr) nq).drew) (Nat.le_refl _) q3)
          clear hb3 q0 q1
          obtain ⟨bu, ou, hao, u0⟩ := (HUR.out.below HB3 (Nat.le_refl _)) i hlt2
          obtain ⟨_, _, x1, u1⟩ := (HUR.out.below HB3 (Nat.le_refl _)) kk hkn
          obtain ⟨_, _, x2, u2⟩ := (HUR.out.below HB3 (Nat.le_refl _)) E hEj
          obtain ⟨bv, ov, hao', v0⟩ := (HVR.out.below HB3 (Nat.le_refl _)) i hlt2
          obtain ⟨_, _, x3, v1⟩ := (HVR.out.below HB3 (Nat.le_refl _)) kk hkn
          obtain ⟨_, _, x4, v2⟩ := (HVR.out.below HB3 (Nat.le_refl _)) E hEj
          rw [hao] at x1 x2
          rw [hao'] at x3 x4
          simp only [Option.some.injEq, Addr.mk.injEq, and_true] at x1 x2 x3 x4
          obtain ⟨rfl, rfl⟩ := x1
          obtain ⟨rfl, rfl⟩ := x2
          obtain ⟨rfl, rfl⟩ := x3
          obtain ⟨rfl, rfl⟩ := x4
          subst hao
          subst hao'
          have he1 : (0 : Int) ≤ (E : Int) := by omega
          have he2 : (E : Int) < (j : Int) := by omega
          obtain ⟨ui0, ui1⟩ := HIn.out.1 i hlt2
          obtain ⟨uk0, uk1⟩ := HIn.out.1 kk hkn
          obtain ⟨vi0, vi1⟩ := HIn.out.2 i hlt2
          obtain ⟨vk0, vk1⟩ := HIn.out.2 kk hkn
          by_cases ha : min 1000000000000 (V i + U kk) < U E
          · have HN : Hid (¬ MOk k j L H j U j V) := fun x => by
              have := (x.2.2.2.2.2 (i, kk, E) (by
                have : (i, kk, E) ∈ allT j L H (i + 1) := by rw [← HP.out.2, HG.out]; simp
                exact allT_mono (by omega) this)).1
              simp [upT] at this
              omega
            have hda : decide (min 1000000000000 (V i + U kk) < U E) = true := by simpa using ha
            go_wp2
            go_quiet (first | (go_at_call 48; refine Calls.quiet_of_same (l1Add_any _ _ (by assumption) (by assumption) (by assumption) (by assumption) _)))
            go_wp2
            go_ret
            exact ⟨bans_no HN.out, below_next HA2.out (Nat.le_refl _) (below_drewN HB3 _)⟩
          have hda : decide (min 1000000000000 (V i + U kk) < U E) = false := by simpa using ha
          by_cases hb : min 1000000000000 (V kk + U i) < V E
          · have HN : Hid (¬ MOk k j L H j U j V) := fun x => by
              have := (x.2.2.2.2.2 (i, kk, E) (by
                have : (i, kk, E) ∈ allT j L H (i + 1) := by rw [← HP.out.2, HG.out]; simp
                exact allT_mono (by omega) this)).2
              simp [dnT] at this
              omega
            have hdb : decide (min 1000000000000 (V kk + U i) < V E) = true := by simpa using hb
            go_wp2
            go_quiet (first | (go_at_call 48; refine Calls.quiet_of_same (l1Add_any _ _ (by assumption) (by assumption) (by assumption) (by assumption) _)))
            go_wp2
            go_ret
            exact ⟨bans_no HN.out, below_next HA2.out (Nat.le_refl _) (below_drewN HB3 _)⟩
          have hdb : decide (min 1000000000000 (V kk + U i) < V E) = false := by simpa using hb
          have HO : Hid (okT U V (i, kk, E)) := ⟨by simp only [upT]; omega, by simp only [dnT]; omega⟩
          go_wp2
          go_quiet (first | (go_at_call 48; refine Calls.quiet_of_same (l1Add_any _ _ (by assumption) (by assumption) (by assumption) (by assumption) _)))
          go_wp2
          go_roundw
          case rel => exact ⟨kk + 1, pre ++ [(i, kk, E)], by omega, by omega, by go_num, fun t ht => by
            rcases List.mem_append.1 ht with ht | ht
            · exact HP.out.1 t ht
            · rw [List.mem_singleton.1 ht]; exact HO.out, by rw [← HP.out.2, HG.out]; simp, below_drewN HB3 _⟩
          case measure => simp [intOf]; omega
    obtain ⟨bu, ou, hao, c0⟩ := (HUR.out.below hbel (Nat.le_refl _)) j hlt
    subst hao
    obtain ⟨bv, ov, hao', d0⟩ := (HVR.out.below hbel (Nat.le_refl _)) j hlt
    subst hao'
    have hk1 : (0 : Int) ≤ (j : Int) := by omega
    have hk2 : (j : Int) < (v : Int) := by omega
    have HB : Hid (∀ q, Below w.heap.size w (wr.drewN q)) := fun q => below_next HA2.out (Nat.le_refl _) (below_drewN hbel q)
    rcases Bool.eq_false_or_eq_true (inB (U j) 0 1000000000000) with h1 | h1
    rotate_left
    · have HN : Hid (¬ MOk k v L H v U v V) := fun x => by
        have := x.2.2.2.1 j hlt
        simp [inB] at h1
        omega
      go_wp2_with (go_at_call 46; refine (l1In_any _ _ _ _).mono ?_; rw [h1]; rintro e w3 ⟨rfl, hw3⟩; have hw4 := hw3.symm; subst hw4; clear hw3)
      go_ret
      exact ⟨bans_no HN.out, below_next HA2.out (Nat.le_refl _) hbel⟩
    rcases Bool.eq_false_or_eq_true (inB (V j) 0 1000000000000) with h2 | h2
    rotate_left
    · have HN : Hid (¬ MOk k v L H v U v V) := fun x => by
        have := x.2.2.2.2.1 j hlt
        simp [inB] at h2
        omega
      go_wp2_with fail
      refine (l1In_any (U j) _ _ _).mono ?_
      rw [h1]
      rintro e w3 ⟨rfl, hw3⟩
      have hw4 := hw3.symm
      subst hw4
      clear hw3
      go_wp2_with fail
      refine (l1In_any (V j) _ _ _).mono ?_
      rw [h2]
      rintro e w3 ⟨rfl, hw3⟩
      have hw4 := hw3.symm
      subst hw4
      clear hw3
      go_wp2
      go_ret
      exact ⟨bans_no HN.out, below_next HA2.out (Nat.le_refl _) hbel⟩
    have HI : Hid (InF (j + 1) U ∧ InF (j + 1) V) := by
      simp [inB] at h1 h2
      exact ⟨fun i hi => by
        by_cases e : i = j
        · subst e; exact h1
        · exact HA.out.1 i (by omega), fun i hi => by
        by_cases e : i = j
        · subst e; exact h2
        · exact HA.out.2 i (by omega)⟩
    go_wp2_with fail
    refine (l1In_any (U j) _ _ _).mono ?_
    rw [h1]
    rintro e w3 ⟨rfl, hw3⟩
    have hw4 := hw3.symm
    subst hw4
    clear hw3
    go_wp2_with fail
    refine (l1In_any (V j) _ _ _).mono ?_
    rw [h2]
    rintro e w3 ⟨rfl, hw3⟩
    have hw4 := hw3.symm
    subst hw4
    clear hw3
    go_wp2
    go_roundw
    case rel => exact ⟨j + 1, by omega, by go_num, HI.out, hbel⟩
    case measure => simp [intOf]; omega

end Go.Proofs.Ytdgnlpafmkhdjah

/-
  The program's helpers over metrics: weights in their bounds, what a triangle tells.
-/
set_option linter.unusedVariables false
set_option linter.unusedSimpArgs false
namespace Go.Proofs.Ytdgnlpafmkhdjah
open Go.RowKit
attribute [local go_sem ↓] Go.wp_at_zero Go.wp_at_succ

set_option maxHeartbeats 1000000 in
theorem weightsOk_any (ao : Option Addr) (n cap : Nat) (f : Nat → Int) (c : Nat) (hn : n ≤ 1048576) (hc : c ≤ 1048576) (w : World) (hr : IRow w ao n f) :
    Calls Try.prog 52 #[.slice ao n cap, .int .i64 (c : Int)] w fun e w' => BAns e (n = c ∧ InF c f) ∧ w' = w := by
  by_cases hnc : n = c
  rotate_left
  · have HN : Hid (¬ (n = c ∧ InF c f)) := fun h => hnc h.1
    have hnc' : ¬ (n : Int) = (c : Int) := by omega
    go_enter Try.func52, Try.ntmps52
    go_wp2
    go_ret
    exact ⟨bans_no HN.out, rfl⟩
  subst hnc
  refine (show Calls Try.prog 52 #[.slice ao n cap, .int .i64 (n : Int)] w (fun e w' => BAns e (InF n f) ∧ w' = w) from ?_).mono (fun e w' ⟨⟨b, h1, h2⟩, h3⟩ => ⟨⟨b, h1, h2.trans ⟨fun h => ⟨rfl, h⟩, fun h => h.2⟩⟩, h3⟩)
  go_enter Try.func52, Try.ntmps52
  go_wp2
  go_loop [13] (fun x => ∃ k : Nat, k ≤ n ∧ x = .int .i64 k ∧ InF k f) (fun x => n - (intOf x).toNat)
  case atStart => exact ⟨0, Nat.zero_le _, rfl, fun i hi => by omega⟩
  case round =>
    obtain ⟨k, hk, rfl, hall⟩ := hrel
    have HA : Hid (InF k f) := hall
    clear hall
    by_cases hlt : k < n
    rotate_left
    · have hkn : k = n := by omega
      subst hkn
      go_wp2
      go_ret
      exact ⟨bans_yes HA.out, rfl⟩
    obtain ⟨b, o, hao, c0⟩ := hr k hlt
    subst hao
    have hk1 : (0 : Int) ≤ (k : Int) := by omega
    have hk2 : (k : Int) < (n : Int) := by omega
    by_cases h1 : f k < 0
    · have HN : Hid (¬ InF n f) := fun h => by have := h k hlt; omega
      go_wp2
      go_ret
      exact ⟨bans_no HN.out, rfl⟩
    by_cases h2 : 1000000000000 < f k
    · have HN : Hid (¬ InF n f) := fun h => by have := h k hlt; omega
      go_wp2
      go_ret
      exact ⟨bans_no HN.out, rfl⟩
    have HI : Hid (InF (k + 1) f) := fun i hi => by
      by_cases e : i = k
      · subst e; omega
      · exact HA.out i (by omega)
    go_wp2
    go_roundw
    case rel => exact ⟨k + 1, by omega, by go_num, HI.out⟩
    case measure => simp [intOf]; omega

set_option maxHeartbeats 2000000 in
theorem upBelow_any (uo : Option Addr) (u ucap : Nat) (U : Nat → Int) (vo : Option Addr) (v vcap : Nat) (V : Nat → Int) (t : Tr) (h1 : t.1 < v) (h2 : t.2.1 < u) (hU : InF u U) (hV : InF v V) (hu : u ≤ 1048576) (hv : v ≤ 1048576) (w : World) (rU : IRow w uo u U) (rV : IRow w vo v V) :
    Calls Try.prog 54 #[.agg #[.slice uo u ucap, .slice vo v vcap], .agg #[.int .i64 (t.1 : Int), .int .i64 (t.2.1 : Int), .int .i64 (t.2.2 : Int)]] w fun e w' => e = .returned (.int .i64 (upT U V t)) ∧ Below w.heap.size w w' := by
  obtain ⟨i, k, e⟩ := t
  simp only at h1 h2
  obtain ⟨b, o, hao, c0⟩ := rU k h2
  subst hao
  obtain ⟨b', o', hao', d0⟩ := rV i h1
  subst hao'
  have hB := ((Below.refl w.heap.size w).alloc (Nat.le_refl _) (.cells #[.slice (some ⟨b, o, none⟩) u ucap, .slice (some ⟨b', o', none⟩) v vcap] 35)).alloc (by simp) (.cells #[.int .i64 (i : Int), .int .i64 (k : Int), .int .i64 (e : Int)] 81)
  replace c0 := keep_cell hB (Nat.le_refl _) c0
  replace d0 := keep_cell hB (Nat.le_refl _) d0
  have hk1 : (0 : Int) ≤ (k : Int) := by omega
  have hk2 : (k : Int) < (u : Int) := by omega
  have hi1 : (0 : Int) ≤ (i : Int) := by omega
  have hi2 : (i : Int) < (v : Int) := by omega
  obtain ⟨uk0, uk1⟩ := hU k h2
  obtain ⟨vi0, vi1⟩ := hV i h1
  go_enter Try.func54, Try.ntmps54
  go_wp2
  go_quiet (first | (go_at_call 87; refine Calls.quiet_of_same (plus_any _ _ (by assumption) (by assumption) (by assumption) (by assumption) _)))
  go_wp2
  go_ret
  exact ⟨rfl, below_drewN hB _⟩

set_option maxHeartbeats 2000000 in
theorem downBelow_any (uo : Option Addr) (u ucap : Nat) (U : Nat → Int) (vo : Option Addr) (v vcap : Nat) (V : Nat → Int) (t : Tr) (h1 : t.2.1 < v) (h2 : t.1 < u) (hU : InF u U) (hV : InF v V) (hu : u ≤ 1048576) (hv : v ≤ 1048576) (w : World) (rU : IRow w uo u U) (rV : IRow w vo v V) :
    Calls Try.prog 55 #[.agg #[.slice uo u ucap, .slice vo v vcap], .agg #[.int .i64 (t.1 : Int), .int .i64 (t.2.1 : Int), .int .i64 (t.2.2 : Int)]] w fun e w' => e = .returned (.int .i64 (dnT U V t)) ∧ Below w.heap.size w w' := by
  obtain ⟨k, i, e⟩ := t
  simp only at h1 h2
  obtain ⟨b, o, hao, c0⟩ := rU k h2
  subst hao
  obtain ⟨b', o', hao', d0⟩ := rV i h1
  subst hao'
  have hB := ((Below.refl w.heap.size w).alloc (Nat.le_refl _) (.cells #[.slice (some ⟨b, o, none⟩) u ucap, .slice (some ⟨b', o', none⟩) v vcap] 35)).alloc (by simp) (.cells #[.int .i64 (k : Int), .int .i64 (i : Int), .int .i64 (e : Int)] 81)
  replace c0 := keep_cell hB (Nat.le_refl _) c0
  replace d0 := keep_cell hB (Nat.le_refl _) d0
  have hk1 : (0 : Int) ≤ (k : Int) := by omega
  have hk2 : (k : Int) < (u : Int) := by omega
  have hi1 : (0 : Int) ≤ (i : Int) := by omega
  have hi2 : (i : Int) < (v : Int) := by omega
  obtain ⟨uk0, uk1⟩ := hU k h2
  obtain ⟨vi0, vi1⟩ := hV i h1
  go_enter Try.func55, Try.ntmps55
  go_wp2
  go_quiet (first | (go_at_call 87; refine Calls.quiet_of_same (plus_any _ _ (by assumption) (by assumption) (by assumption) (by assumption) _)))
  go_wp2
  go_ret
  exact ⟨rfl, below_drewN hB _⟩

end Go.Proofs.Ytdgnlpafmkhdjah

/-
  Keys of two numbers, and maps of the call's own in a later world: no function of the program.
-/
set_option linter.unusedVariables false
set_option linter.unusedSimpArgs false
namespace Go.Proofs.Ytdgnlpafmkhdjah
open Go.ChangeShapes Go.WideShapes Go.ChangeAt Go.RowKit Go.Maps

theorem key_two {P : Program} {k : TypeId} {f0 f1 : Field} (hs : P.underlying k = some (.struct #[f0, f1])) (hk : P.keyType k = true) (hC : P.cellsOf k = 2) (h0 : P.underlying f0.type = some (.int .i64)) (h1 : P.underlying f1.type = some (.int .i64))
    (o0 : f0.offset = 0) (o1 : f1.offset = 1) (c0 : P.cellsOf f0.type = 1) (c1 : P.cellsOf f1.type = 1) (n0 : (f0.name != "_") = true) (n1 : (f1.name != "_") = true) (hm : ∃ m, P.types.size = m + 1)
    {f t : Int} (hf : (Lit.int .i64 f).wf = true) (ht : (Lit.int .i64 t).wf = true) : keyOf P k (.agg #[.int .i64 f, .int .i64 t]) = some (.string (keyBytes [.int .i64 f, .int .i64 t])) := by
  obtain ⟨m, hm⟩ := hm
  simp at n0 n1
  simp [keyOf, hs, hk, Value.formed, hC, Value.cells, hm, Program.keyLits, h0, h1, o0, o1, c0, c1, n0, n1, hf, ht]

theorem ownsMap_block {H : Type} {P : Program} {k : TypeId} {R : Value → Option (DataW H × List MemPlace)} {b n : Nat} {D : DataW H} {w w' : World} (h : w.ownsMap P k R b n D) (e : w'.heap[b]? = w.heap[b]?) : w'.ownsMap P k R b n D := by
  unfold World.ownsMap at h ⊢
  rw [e]; exact h
theorem ownsMap_below {H : Type} {P : Program} {k : TypeId} {R : Value → Option (DataW H × List MemPlace)} {b n : Nat} {D : DataW H} {w w' : World} (h : w.ownsMap P k R b n D) (hb : Below w.heap.size w w') : w'.ownsMap P k R b n D :=
  ownsMap_block h (hb.block b h.lt)

end Go.Proofs.Ytdgnlpafmkhdjah

/-
  The map from an edge to its number: what its keys read as, and what it holds after so many edges; the walk that fills it.
-/
set_option linter.unusedVariables false
set_option linter.unusedSimpArgs false
namespace Go.Proofs.Ytdgnlpafmkhdjah
open Go.ChangeShapes Go.WideShapes Go.ChangeAt Go.RowKit Go.Maps

set_option maxRecDepth 100000 in
theorem Try.rowEdge : (71 : TypeId) < Try.prog.types.size := of_decide_eq_true (by kernel_rfl)
theorem Try.wideEdge : (match Try.prog.underlying 71 with | some (.array _ _) | some (.struct _) => true | _ => false) = true := by rw [Try.underlying71]
set_option maxRecDepth 100000 in
theorem Try.keyLawE : Keyed Try.prog 71 := Keyed.of_law (deep_law_laid Try.laidOut (m := 2) (by omega) Try.rowEdge (by kernel_rfl) Try.wideEdge)
theorem Try.keyTypeE : Try.prog.keyType 71 = true := by kernel_rfl
theorem Try.cellsEdge : Try.prog.cellsOf 71 = 2 := by kernel_rfl
theorem Try.mapZeroE (w : World) : (zeroValue 3).run Try.prog w = .ok (.int .i64 0) w := by kernel_rfl
set_option maxRecDepth 100000 in
theorem Try.someTypesE : ∃ m, Try.prog.types.size = m + 1 := ⟨_, (Nat.succ_pred_eq_of_pos (Nat.lt_of_le_of_lt (Nat.zero_le _) Try.rowEdge)).symm⟩

def ekl (f t : Int) : Lit := .string (keyBytes [.int .i64 f, .int .i64 t])
set_option maxRecDepth 100000 in
theorem key_edge (f t : Int) (hf : (Lit.int .i64 f).wf = true) (ht : (Lit.int .i64 t).wf = true) : keyOf Try.prog 71 (.agg #[.int .i64 f, .int .i64 t]) = some (ekl f t) := by
  exact key_two Try.underlying71 Try.keyTypeE Try.cellsEdge Try.underlying2 Try.underlying2 rfl rfl Try.cellsInt Try.cellsInt (by decide) (by decide) Try.someTypesE hf ht
theorem ekl_inj {f t f' t' : Int} (hf : (Lit.int .i64 f).wf = true) (ht : (Lit.int .i64 t).wf = true) (hf' : (Lit.int .i64 f').wf = true) (ht' : (Lit.int .i64 t').wf = true) (h : ekl f t = ekl f' t') : f = f' ∧ t = t' := by
  have := Try.keyLawE.inj (key_edge f t hf ht) (by rw [h]; exact key_edge f' t' hf' ht')
  simpa using this
theorem ekl_key (f t : Int) : WideAt.IsKeyLit (ekl f t) := trivial

/-- What the map holds after k edges. -/
def enums (F T : Nat → Int) : Nat → DataW Unit
  | 0 => .map []
  | k + 1 => (enums F T k).put (ekl (F k) (T k)) (.lit (.int .i64 (k : Int)))
theorem enums_isMap (F T : Nat → Int) : ∀ k, IsMap (enums F T k)
  | 0 => isMap_empty
  | k + 1 => (enums_isMap F T k).put _ _

def EWf (F T : Nat → Int) (n : Nat) : Prop := ∀ k, k < n → (Lit.int .i64 (F k)).wf = true ∧ (Lit.int .i64 (T k)).wf = true

/-- A look-up in it: there is none, and then the key is not there; or it is there with its last number. -/
theorem enums_look (F T : Nat → Int) (a b : Int) (ha : (Lit.int .i64 a).wf = true) (hb : (Lit.int .i64 b).wf = true) : ∀ n, EWf F T n →
    (Maps.has (enums F T n) (ekl a b) = false ∧ ∀ k, k < n → ¬ (F k = a ∧ T k = b)) ∨
    ∃ k, k < n ∧ F k = a ∧ T k = b ∧ Maps.has (enums F T n) (ekl a b) = true ∧ (enums F T n).atKey (ekl a b) (.lit (.int .i64 0)) = .lit (.int .i64 (k : Int))
  | 0, _ => Or.inl ⟨rfl, fun k hk => by omega⟩
  | n + 1, hw => by
    by_cases h : F n = a ∧ T n = b
    · obtain ⟨rfl, rfl⟩ := h
      exact Or.inr ⟨n, by omega, rfl, rfl, has_put_same (enums_isMap F T n) (ekl_key _ _) _, atKey_put_same (enums_isMap F T n) (ekl_key _ _) _ _⟩
    · have hne : ekl a b ≠ ekl (F n) (T n) := fun e => by
        have := ekl_inj ha hb (hw n (by omega)).1 (hw n (by omega)).2 e
        exact h ⟨this.1.symm, this.2.symm⟩
      rcases enums_look F T a b ha hb n (fun k hk => hw k (by omega)) with ⟨h1, h2⟩ | ⟨k, hk, h1, h2, h3, h4⟩
      · exact Or.inl ⟨by rw [enums, has_put_other hne]; exact h1, fun k hk => by
          by_cases e : k = n
          · subst e; exact h
          · exact h2 k (by omega)⟩
      · exact Or.inr ⟨k, by omega, h1, h2, by rw [enums, has_put_other hne]; exact h3, by rw [enums, atKey_put_other hne]; exact h4⟩

theorem make_emap (n : Nat) (w : World) : (Instr.makeMap 96 (some (.int .i64 (n : Int)))).run Try.prog w = .ok (.map (some w.heap.size)) (w.alloc (.map #[] 0)) := by
  simp [Instr.makeMap, run_underlying Try.underlying96, asInt, asIntOf, newObj]
  rfl

set_option maxHeartbeats 1000000 in
theorem edgeNumbers_any (ao : Option Addr) (n cap : Nat) (L H : Nat → Int) (hn : n ≤ 1048576) (hwf : EWf L H n) (w : World) (hr : ERow w ao n L H) :
    Calls Try.prog 85 #[.slice ao n cap] w fun e w' => e = .returned (.map (some w.heap.size)) ∧ w'.ownsMap Try.prog 71 (plainElem Try.prog 3) w.heap.size n (enums L H n) ∧ Below w.heap.size w w' := by
  have hmk := make_emap n
  go_enter Try.func85, Try.ntmps85
  go_wp2
  clear hmk
  go_loopw [11] (fun i wr => ∃ k : Nat, k ≤ n ∧ i = .int .i64 k ∧ wr.ownsMap Try.prog 71 (plainElem Try.prog 3) w.heap.size k (enums L H k) ∧ Below w.heap.size w wr) (fun i _ => n - (intOf i).toNat)
  case atStart => exact ⟨0, Nat.zero_le _, rfl, by simpa [enums] using World.ownsMap_made w Try.prog 71 (plainElem (H := Unit) Try.prog 3), (Below.refl _ _).alloc (by simp) _⟩
  case round =>
    obtain ⟨k, hk, rfl, hown, hbel⟩ := hrel
    have hlt0 : w.heap.size < wr.heap.size := hown.lt
    by_cases hlt : k < n
    rotate_left
    · have hkn : k = n := by omega
      subst hkn
      go_wp2
      go_ret
      exact ⟨rfl, hown, hbel⟩
    obtain ⟨b, o, hao, c0, c1⟩ := (hr.below hbel (Nat.le_refl _)) k hlt
    subst hao
    have hkey := key_edge (L k) (H k) (hwf k hlt).1 (hwf k hlt).2
    have hown1 := hown.alloc (.cells #[.int .i64 (L k), .int .i64 (H k)] 71)
    have hbel1 := hbel.alloc (o := .cells #[.int .i64 (L k), .int .i64 (H k)] 71) hbel.size
    go_wp2_with (at_mapUpdate; refine wpList_mapUpdate_own _ rfl _ _ _ 96 rfl 71 3 Try.keyLawE Try.underlying96 _ w.heap.size k _ rfl hown1 (by unfold maxLen; omega) _ _ _ rfl rfl hkey _ [] (plainElem_int Try.underlying3 (WalkArith.wf_i64 (by omega))) ?_; intro w2 hown2 hgrow2)
    go_wp2
    go_roundw
    case rel => exact ⟨k + 1, by omega, by go_num, hown2, hbel1.grown hgrow2 (by simp; omega) (fun j hj => by cases hj; exact Nat.le_refl _)⟩
    case measure => simp [intOf]; omega

end Go.Proofs.Ytdgnlpafmkhdjah

/-
  A range over a function whose rounds write what the function reads between them: the caller's own invariant tells the function what lies there. Two laws: for a loop that stands alone and for one in a round of another; no round leaves early.
-/
set_option linter.unusedVariables false
set_option linter.unusedSimpArgs false
namespace Go.Proofs.Ytdgnlpafmkhdjah
open Go Go.RowKit

section
variable {F : Fence} {n m : Nat} {P : Program}

/-- One call of yield: the record is ready, the body ends in the ordinary way and leaves it busy. -/
theorem yield_of {l : Nat} {r : Loop} {args : Array Value} {W : World} {R : Ending → World → Prop} (hl : W.heap[l]? = some (.loop r)) (hs : args.size = r.params.size) (hr : r.state = .ready) (hp : r.pending = none) (hfn : F.fn r.fn)
    (h : r.assign.wpIn (F.inRound l) m P (Exit.then (fun a' Wa => Wa.heap[l]? = some (.loop r) ∧ r.body.wpIn (F.inRound l) m P (fun e _ W3 => e = .normal ∧ W3.heap[l]? = some (.loop { r with state := .busy }) ∧ R (.returned (.bool true)) (W3.putObj l (.loop r))) a' (Wa.putObj l (.loop { r with state := .busy }))) (fun _ _ _ => False))
      { tmps := (r.params.zip args).foldl (fun t (p, v) => t.setIfInBounds p v) r.tmps, defers := [] } W) : YieldAt F m P l args W R := by
  refine ⟨_, _, _, _, run_yield hl hs, roundIn_of_wpIn hfn (wpIn_mono h ?_)⟩
  intro e a' Wa hh
  cases e with
  | normal =>
    obtain ⟨h1, h2⟩ := hh
    refine ⟨_, run_beginRound h1 hr, wpIn_mono h2 ?_⟩
    rintro e3 a3 W3 ⟨rfl, h3, h4⟩
    refine ⟨_, _, run_endRound none h3, ?_⟩
    have e : ({ { r with state := .busy } with state := if (none : Option Code).isNone then .ready else .done, pending := none } : Loop) = r := by
      cases r; simp_all
    rw [e]
    exact h4
  | _ => exact hh

/-- How a round's body ends: ordinarily; what is no cells and lies from B on lies as it lay; the invariant holds one further. -/
def roundQ {α : Type} (B : Nat) (I : List α → World → Prop) (xs : List α) (W : World) : Exit → Act → World → Prop := fun e _ W' => e = .normal ∧ KeepsFrom B W W' ∧ I xs W'

/-- What the function that is ranged over owes: called with the yield of loop l, whatever J that tells I, it hands over elements that are asked for (G) till S. -/
def SeqAt {α : Type} (F : Fence) (n : Nat) (P : Program) (gf : Nat) (lb : Array Value) (encs : α → Array Value) (I : List α → World → Prop) (G : List α → α → Prop) (S : List α → Prop) (w : World) : Prop :=
  ∀ (l : Nat) (J : List α → World → Prop) (W : World), Below w.heap.size w W → AbidesFrom W.heap.size J → (∀ pre W1, J pre W1 → I pre W1) →
    (∀ pre x W1, J pre W1 → G pre x → YieldAt F (n - 1) P l (encs x) W1 fun e W' => e = .returned (.bool true) ∧ J (pre ++ [x]) W') → J [] W →
    CallsIn F n P gf (#[.func (.yield l) #[] #[]] ++ lb) W fun e W' => (∃ v, e = .returned v) ∧ ∃ xs, S xs ∧ J xs W'

/-- A round, its bookkeeping done: the record's block l lies from B on. -/
theorem round_of {α : Type} {B l : Nat} {r : Loop} {encs : α → Array Value} {x : α} {pre : List α} {W : World} {I : List α → World → Prop} {Ax : α → Act → World → Prop} (hI : OwnFrom B I) (hAx : ∀ a', OwnFrom B (fun (_ : Unit) W => Ax x a' W))
    (hB : B ≤ l) (hl : W.heap[l]? = some (.loop r)) (hs : (encs x).size = r.params.size) (hr : r.state = .ready) (hp : r.pending = none) (hfn : F.fn r.fn) (hi : I pre W)
    (hassign : ∀ K : Act → World → Prop, (∀ a' W', KeepsFrom B W W' → I pre W' → Ax x a' W' → K a' W') →
      r.assign.wpIn (F.inRound l) m P (Exit.then K (fun _ _ _ => False)) { tmps := (r.params.zip (encs x)).foldl (fun t (p, v) => t.setIfInBounds p v) r.tmps, defers := [] } W)
    (hbody : ∀ (a' : Act) (W' : World), (∃ r, W'.heap[l]? = some (.loop r)) → I pre W' → Ax x a' W' → r.body.wpIn (F.inRound l) m P (roundQ B I (pre ++ [x]) W') a' W')
    {R : World → Prop} (hR : ∀ W', I (pre ++ [x]) W' → W'.heap[l]? = some (.loop r) → (∀ k o, B ≤ k → k ≠ l → W.heap[k]? = some o → o.isCells = false → W'.heap[k]? = some o) → R W') :
    YieldAt F m P l (encs x) W fun e W' => e = .returned (.bool true) ∧ R W' := by
  refine yield_of hl hs hr hp hfn (hassign _ ?_)
  intro a' Wa hk hia hax
  have hla := hk.same l _ hB hl rfl
  have hlt := (Array.getElem?_eq_some_iff.1 hla).1
  have hl2 : (Wa.putObj l (.loop { r with state := .busy })).heap[l]? = some (.loop { r with state := .busy }) := World.putObj_heap_same hlt
  refine ⟨hla, wpIn_mono (hbody a' _ ⟨_, hl2⟩ (hI.putObj _ hia hB hla rfl) ((hAx a').putObj (s := ()) _ hax hB hla rfl)) ?_⟩
  rintro e a3 W3 ⟨rfl, hk3, hi3⟩
  have hl3 := hk3.same l _ hB hl2 rfl
  refine ⟨rfl, hl3, rfl, hR _ (hI.putObj _ hi3 hB hl3 rfl) (World.putObj_heap_same (Array.getElem?_eq_some_iff.1 hl3).1) ?_⟩
  intro k o hBk hne h0 ho
  rw [World.putObj_heap_other hne]
  refine hk3.same k o hBk ?_ ho
  rw [World.putObj_heap_other hne]
  exact hk.same k o hBk h0 ho

/-- THE LAW for a loop that stands alone. -/
theorem range_alone {α : Type} {g : Operand} {ps : Array Tmp} {assign body : Code} {Q : Exit → Act → World → Prop} {a : Act} {w : World}
    (hro : F.round = none) (h1 : 1 ≤ n) {gf : Nat} {lb : Array Value} (hg : a.eval g = .func (.func gf) #[] lb) (hFg : F.fn gf) (eg : ∀ args w, (callFunc gf args).run P w = .ok (.enter gf args) w)
    {encs : α → Array Value} (hps : ∀ x, (encs x).size = ps.size) (I : List α → World → Prop) (hI : OwnFrom w.heap.size I) (h0 : I [] w) {G : List α → α → Prop} {S : List α → Prop} (hseq : SeqAt F (n - 1) P gf lb encs I G S w)
    (Ax : α → Act → World → Prop) (hAx : ∀ x a', OwnFrom w.heap.size (fun (_ : Unit) W => Ax x a' W))
    (hassign : ∀ (l : Nat) (pre : List α) (x : α) (W : World) (K : Act → World → Prop), I pre W → G pre x → (∀ a' W', KeepsFrom w.heap.size W W' → I pre W' → Ax x a' W' → K a' W') →
      assign.wpIn (F.inRound l) (n - 1 - 1) P (Exit.then K (fun _ _ _ => False)) { tmps := (ps.zip (encs x)).foldl (fun t (p, v) => t.setIfInBounds p v) a.tmps, defers := [] } W)
    (hbody : ∀ (l : Nat) (pre : List α) (x : α) (a' : Act) (W : World), w.heap.size ≤ l → (∃ r, W.heap[l]? = some (.loop r)) → I pre W → G pre x → Ax x a' W → body.wpIn (F.inRound l) (n - 1 - 1) P (roundQ w.heap.size I (pre ++ [x]) W) a' W)
    (hdone : ∀ (D : Nat) (xs : List α) (W : World), w.heap.size ≤ D → S xs → I xs W → W.heap[D]? = some (.deferred (some [])) → Q .normal { a with defers := { target := .collected D, args := #[] } :: a.defers } W) :
    (Code.rangeFunc g ps assign body).wpIn F n P Q a w := by
  refine wpIn_rangeFunc fun fn hfn => ?_
  rw [hro]
  obtain ⟨r, hr⟩ : ∃ r : Loop, r = { state := .ready, pending := none, fn, tmps := a.tmps, params := ps, assign, body, defers := w.heap.size } := ⟨_, rfl⟩
  have hen := run_enterLoop_outer (P := P) (w := w) fn a.tmps ps assign body
  rw [← hr] at hen
  have hb : Below w.heap.size w ((w.alloc (.deferred (some []))).alloc (.loop r)) := ((Below.refl _ w).alloc (Nat.le_refl _) _).alloc (by simp) _
  have hL : ((w.alloc (.deferred (some []))).alloc (.loop r)).heap[w.heap.size + 1]? = some (.loop r) := by
    have := World.alloc_heap_new (w.alloc (.deferred (some []))) (.loop r)
    rwa [World.size_alloc] at this
  have hD : ((w.alloc (.deferred (some []))).alloc (.loop r)).heap[w.heap.size]? = some (.deferred (some [])) := (Below.heap_alloc _ _ _ (by simp)).trans (World.alloc_heap_new w _)
  have hi := hI.alloc (.loop r) (hI.alloc (.deferred (some [])) h0)
  have hsz : ((w.alloc (.deferred (some []))).alloc (.loop r)).heap.size = w.heap.size + 2 := by simp
  generalize (w.alloc (.deferred (some []))).alloc (.loop r) = W1 at hb hL hD hi hsz hen
  refine ⟨w.heap.size + 1, [{ target := .collected w.heap.size, args := #[] }], W1, { target := .fn (.func gf) lb, args := #[.func (.yield (w.heap.size + 1)) #[] #[]] }, W1, gf, #[.func (.yield (w.heap.size + 1)) #[] #[]] ++ lb, W1, hen, ?_, ?_, ?_, fun _ => h1, ?_⟩
  · simp only [resolve, hg]
    simp [go_sem]
  · intro f' hf'
    simp [Target.leads] at hf'
    subst hf'
    exact hFg
  · simp [invoke, go_sem, eg]
  refine (hseq (w.heap.size + 1) (fun pre W => I pre W ∧ W.heap[w.heap.size + 1]? = some (.loop r) ∧ W.heap[w.heap.size]? = some (.deferred (some []))) W1 hb ?_ (fun _ _ h => h.1) ?_ ⟨hi, hL, hD⟩).mono ?_
  · rintro s A B row ⟨hs, hl, hd⟩ hg' hrow
    have hw' : ∀ r, row = some r → ∃ o : Obj, A.heap[r]? = some o ∧ o.isWalk = true := fun r e => (hrow r e).2
    refine ⟨hI s A B row hs hg' (fun j e => ?_), (grownBy_keeps hg' hw' hl rfl).trans hl, (grownBy_keeps hg' hw' hd rfl).trans hd⟩
    obtain ⟨hj, o, ho, hwo⟩ := hrow j e
    exact ⟨by omega, o, ho, Obj.not_cells_of_walk hwo⟩
  · rintro pre x W ⟨hi', hl', hd'⟩ hG
    refine round_of hI (hAx x) (by omega) hl' (by rw [hr]; exact hps x) (by rw [hr]) (by rw [hr]) (by rw [hr]; exact hfn) hi' ?_ ?_ ?_
    · intro K hK
      have := hassign (w.heap.size + 1) pre x W K hi' hG hK
      rw [hr]
      exact this
    · intro a' W' hrec hi2 hax
      have := hbody (w.heap.size + 1) pre x a' W' (by omega) hrec hi2 hG hax
      rw [hr]
      exact this
    · intro W' hi3 hl3 hrest
      exact ⟨hi3, hl3, hrest _ _ (Nat.le_refl _) (by omega) hd' rfl⟩
  · rintro e W2 ⟨⟨v, rfl⟩, xs, hS, hi2, hl2, hd2⟩
    refine ⟨none, _, ?_, hdone _ xs _ (Nat.le_refl _) hS (hI.putObj (.loop { r with state := .exhausted }) hi2 (by omega) hl2 rfl) ((World.putObj_heap_other (by omega)).trans hd2)⟩
    have := run_endLoop (P := P) hl2 (by rw [hr]; simp)
    have e : r.pending = none := by rw [hr]
    rw [e] at this ⊢
    exact this

/-- THE LAW for a loop in a round of loop l₀. -/
theorem range_within {α : Type} {g : Operand} {ps : Array Tmp} {assign body : Code} {Q : Exit → Act → World → Prop} {a : Act} {w : World}
    {l₀ : Nat} {r₀ : Loop} (hro : F.round = some l₀) (hl₀ : w.heap[l₀]? = some (.loop r₀)) (h1 : 1 ≤ n) {gf : Nat} {lb : Array Value} (hg : a.eval g = .func (.func gf) #[] lb) (hFg : F.fn gf) (eg : ∀ args w, (callFunc gf args).run P w = .ok (.enter gf args) w)
    {encs : α → Array Value} (hps : ∀ x, (encs x).size = ps.size) (I : List α → World → Prop) (hI : OwnFrom w.heap.size I) (h0 : I [] w) {G : List α → α → Prop} {S : List α → Prop} (hseq : SeqAt F (n - 1) P gf lb encs I G S w)
    (Ax : α → Act → World → Prop) (hAx : ∀ x a', OwnFrom w.heap.size (fun (_ : Unit) W => Ax x a' W))
    (hassign : ∀ (l : Nat) (pre : List α) (x : α) (W : World) (K : Act → World → Prop), I pre W → G pre x → (∀ a' W', KeepsFrom w.heap.size W W' → I pre W' → Ax x a' W' → K a' W') →
      assign.wpIn (F.inRound l) (n - 1 - 1) P (Exit.then K (fun _ _ _ => False)) { tmps := (ps.zip (encs x)).foldl (fun t (p, v) => t.setIfInBounds p v) a.tmps, defers := [] } W)
    (hbody : ∀ (l : Nat) (pre : List α) (x : α) (a' : Act) (W : World), w.heap.size ≤ l → (∃ r, W.heap[l]? = some (.loop r)) → I pre W → G pre x → Ax x a' W → body.wpIn (F.inRound l) (n - 1 - 1) P (roundQ w.heap.size I (pre ++ [x]) W) a' W)
    (hdone : ∀ (xs : List α) (W : World), S xs → I xs W → Q .normal a W) :
    (Code.rangeFunc g ps assign body).wpIn F n P Q a w := by
  refine wpIn_rangeFunc fun fn hfn => ?_
  rw [hro]
  obtain ⟨r, hr⟩ : ∃ r : Loop, r = { state := .ready, pending := none, fn, tmps := a.tmps, params := ps, assign, body, defers := r₀.defers } := ⟨_, rfl⟩
  have hen := run_enterLoop_inner (P := P) hl₀ fn a.tmps ps assign body
  rw [← hr] at hen
  have hb : Below w.heap.size w (w.alloc (.loop r)) := (Below.refl _ w).alloc (Nat.le_refl _) _
  have hL : (w.alloc (.loop r)).heap[w.heap.size]? = some (.loop r) := World.alloc_heap_new w _
  have hi := hI.alloc (.loop r) h0
  have hsz : (w.alloc (.loop r)).heap.size = w.heap.size + 1 := by simp
  generalize w.alloc (.loop r) = W1 at hb hL hi hsz hen
  refine ⟨w.heap.size, [], W1, { target := .fn (.func gf) lb, args := #[.func (.yield w.heap.size) #[] #[]] }, W1, gf, #[.func (.yield w.heap.size) #[] #[]] ++ lb, W1, hen, ?_, ?_, ?_, fun _ => h1, ?_⟩
  · simp only [resolve, hg]
    simp [go_sem]
  · intro f' hf'
    simp [Target.leads] at hf'
    subst hf'
    exact hFg
  · simp [invoke, go_sem, eg]
  refine (hseq w.heap.size (fun pre W => I pre W ∧ W.heap[w.heap.size]? = some (.loop r)) W1 hb ?_ (fun _ _ h => h.1) ?_ ⟨hi, hL⟩).mono ?_
  · rintro s A B row ⟨hs, hl⟩ hg' hrow
    have hw' : ∀ r, row = some r → ∃ o : Obj, A.heap[r]? = some o ∧ o.isWalk = true := fun r e => (hrow r e).2
    refine ⟨hI s A B row hs hg' (fun j e => ?_), (grownBy_keeps hg' hw' hl rfl).trans hl⟩
    obtain ⟨hj, o, ho, hwo⟩ := hrow j e
    exact ⟨by omega, o, ho, Obj.not_cells_of_walk hwo⟩
  · rintro pre x W ⟨hi', hl'⟩ hG
    refine round_of hI (hAx x) (Nat.le_refl _) hl' (by rw [hr]; exact hps x) (by rw [hr]) (by rw [hr]) (by rw [hr]; exact hfn) hi' ?_ ?_ ?_
    · intro K hK
      have := hassign w.heap.size pre x W K hi' hG hK
      rw [hr]
      exact this
    · intro a' W' hrec hi2 hax
      have := hbody w.heap.size pre x a' W' (Nat.le_refl _) hrec hi2 hG hax
      rw [hr]
      exact this
    · intro W' hi3 hl3 _
      exact ⟨hi3, hl3⟩
  · rintro e W2 ⟨⟨v, rfl⟩, xs, hS, hi2, hl2⟩
    refine ⟨none, _, ?_, hdone xs _ hS (hI.putObj (.loop { r with state := .exhausted }) hi2 (Nat.le_refl _) hl2 rfl)⟩
    have := run_endLoop (P := P) hl2 (by rw [hr]; simp)
    have e : r.pending = none := by rw [hr]
    rw [e] at this ⊢
    exact this
end

end Go.Proofs.Ytdgnlpafmkhdjah

/-
  Chordal: the program's. For every list of at most 2^20 edges.
-/
set_option linter.unusedVariables false
set_option linter.unusedSimpArgs false
namespace Go.Proofs.Ytdgnlpafmkhdjah
open Go.RowKit Go.Maps
attribute [local go_sem ↓] Go.wp_at_zero Go.wp_at_succ

theorem edge_wf {l h p : Int} (he : edgeB l h p = true) (hp : p ≤ 24) : (Lit.int .i64 l).wf = true ∧ (Lit.int .i64 h).wf = true := by
  have := edgeB_in he
  exact ⟨WalkArith.wf_i64 (by omega), WalkArith.wf_i64 (by omega)⟩

set_option maxRecDepth 100000 in
set_option maxHeartbeats 2000000 in
theorem implChordal_any (p : Int) (ao : Option Addr) (n cap : Nat) (L H : Nat → Int) (hn : n ≤ 1048576) (hcap : n ≤ cap) (w : World) (hr : ERow w ao n L H) :
    Calls Try.prog 51 #[.slice ao n cap, .int .i64 p] w fun e w' => BAns e (Chd p n L H) ∧ Below w.heap.size w w' := by
  rcases Bool.eq_false_or_eq_true (edgesB p n L H) with h | h
  rotate_left
  · have HC : Hid (¬ Chd p n L H) := fun hc => by rw [hc.1] at h; cases h
    go_enter Try.func51, Try.ntmps51
    go_wp2_with (go_at_call 84; refine (edgesOk_any p ao n cap L H hn _ hr).mono ?_; rintro e w1 ⟨rfl, hb1⟩)
    go_ret
    exact ⟨bans_no HC.out, hb1⟩
  have HC : Hid (Chd p n L H ↔ ChdTo n L H n) := ⟨fun x => x.2, fun x => ⟨h, x⟩⟩
  have hwf : EWf L H n := fun k hk => by
    simp [edgesB, inB] at h
    exact edge_wf (edB_at n h.2 k hk) (by omega)
  have HW : Hid (EWf L H n) := hwf
  clear hwf
  go_enter Try.func51, Try.ntmps51
  go_wp2_with fail
  refine (edgesOk_any p ao n cap L H hn _ hr).mono ?_
  rintro e w1 ⟨rfl, hb1⟩
  go_wp2_with fail
  refine (edgeNumbers_any ao n cap L H hn HW.out _ (hr.below hb1 (Nat.le_refl _))).mono ?_
  rintro e w2 ⟨rfl, hm2, hb2⟩
  have hA2 := below_next hb1 (Nat.le_refl _) hb2
  have hs1 := hb1.size
  clear hb1 hb2
  go_wp2
  go_loopw [20] (fun x wr => ∃ i : Nat, i ≤ n ∧ x = .int .i64 i ∧ ChdTo n L H i ∧ wr.ownsMap Try.prog 71 (plainElem Try.prog 3) w1.heap.size n (enums L H n) ∧ Below w.heap.size w wr) (fun x _ => n - (intOf x).toNat)
  case atStart => exact ⟨0, Nat.zero_le _, rfl, fun i hi => by omega, hm2, hA2⟩
  case round =>
    clear hm2 hA2
    obtain ⟨i, hi, rfl, hto, hm, hbel⟩ := hrel
    have HTO : Hid (ChdTo n L H i) := hto
    clear hto
    by_cases hlt : i < n
    rotate_left
    · have hin : i = n := by omega
      subst hin
      go_wp2
      go_ret
      exact ⟨bans_yes (HC.out.2 HTO.out), hbel⟩
    obtain ⟨b, o, hao, c0, c1⟩ := (hr.below hbel (Nat.le_refl _)) i hlt
    subst hao
    have hi1 : (0 : Int) ≤ (i : Int) := by omega
    have hi2 : (i : Int) < (n : Int) := by omega
    have hm' := hm.alloc (.cells #[.int .i64 (L i), .int .i64 (H i)] 71)
    have hb' := hbel.alloc (o := .cells #[.int .i64 (L i), .int .i64 (H i)] 71) hbel.size
    by_cases hc : cap = i + 1
    · have hin : n = i + 1 := by omega
      have HN : Hid (ChdTo n L H (i + 1)) := HTO.out.next (ChdAt.start n L H i) (Or.inl hin.symm) (by omega)
      subst hc
      have hz : n - (i + 1) = 0 := by omega
      go_wp2
      all_goals try omega
      go_loopw [30] (fun x wq => x = .int .i64 0 ∧ wq.ownsMap Try.prog 71 (plainElem Try.prog 3) w1.heap.size n (enums L H n) ∧ Below w.heap.size w wq) (fun x _ => 0)
      case atStart => exact ⟨rfl, hm', hb'⟩
      case round =>
        clear hm' hb' hm hbel
        obtain ⟨rfl, hm, hbel⟩ := hrel
        go_wp2
        go_roundw
        case rel => exact ⟨i + 1, by omega, by go_num, HN.out, hm, hbel⟩
        case measure => simp [intOf]; omega
    obtain ⟨W0, hW0⟩ : ∃ W0, W0 = wr := ⟨_, rfl⟩
    subst hW0
    have hc2 : i + 1 < cap := by omega
    have hfl : W0.heap.size < (W0.alloc (.cells #[.int .i64 (L i), .int .i64 (H i)] 71)).heap.size := by simp
    have hbw := hbel.size
    have f0 : (W0.alloc (.cells #[.int .i64 (L i), .int .i64 (H i)] 71)).cell? ⟨W0.heap.size, 0, none⟩ = some (.int .i64 (L i)) := by simp [go_sem]
    have f1 : (W0.alloc (.cells #[.int .i64 (L i), .int .i64 (H i)] 71)).cell? ⟨W0.heap.size, 1, none⟩ = some (.int .i64 (H i)) := by simp [go_sem]
    go_wp2
    go_loopw [30] (fun x wq => ∃ k : Nat, i + 1 + k ≤ n ∧ x = .int .i64 k ∧ ChdAt n L H i (i + 1 + k) ∧ wq.ownsMap Try.prog 71 (plainElem Try.prog 3) w1.heap.size n (enums L H n) ∧ wq.cell? ⟨W0.heap.size, 0, none⟩ = some (.int .i64 (L i)) ∧ wq.cell? ⟨W0.heap.size, 1, none⟩ = some (.int .i64 (H i)) ∧ Below w.heap.size w wq) (fun x _ => n - (intOf x).toNat)
    case atStart => exact ⟨0, by omega, rfl, ChdAt.start n L H i, hm', f0, f1, hb'⟩
    case round =>
      clear hm' hb' hm hbel f0 f1 hfl hbw
      obtain ⟨k, hk, rfl, hat, hm, f0, f1, hbel⟩ := hrel
      have HAT : Hid (ChdAt n L H i (i + 1 + k)) := hat
      clear hat c0 c1
      have hml := hm.lt
      have hfl := lt_of_cell f0
      by_cases hkn : i + 1 + k < n
      rotate_left
      · have e : i + 1 + k = n := by omega
        have HN : Hid (ChdTo n L H (i + 1)) := HTO.out.next HAT.out (Or.inl e) (by omega)
        have hd : ¬ (k : Int) < ((n - (i + 1) : Nat) : Int) := by omega
        go_wp2
        go_roundw
        case rel => exact ⟨i + 1, by omega, by go_num, HN.out, hm, hbel⟩
        case measure => simp [intOf]; omega
      obtain ⟨b', o', hao', d0, d1⟩ := (hr.below hbel (Nat.le_refl _)) (i + 1 + k) hkn
      simp only [Option.some.injEq, Addr.mk.injEq, and_true] at hao'
      obtain ⟨rfl, rfl⟩ := hao'
      have e0 : o + (i + 1 + k) * 2 = o + (i + 1) * 2 + k * 2 := by omega
      rw [e0] at d0 d1
      clear e0
      have hd : (k : Int) < ((n - (i + 1) : Nat) : Int) := by omega
      have hk0 : (0 : Int) ≤ (k : Int) := by omega
      have hm' := hm.alloc (.cells #[.int .i64 (L (i + 1 + k)), .int .i64 (H (i + 1 + k))] 71)
      have hb' := hbel.alloc (o := .cells #[.int .i64 (L (i + 1 + k)), .int .i64 (H (i + 1 + k))] 71) hbel.size
      have hB := Below.refl wr.heap.size wr
      have HB := hB.alloc (o := .cells #[.int .i64 (L (i + 1 + k)), .int .i64 (H (i + 1 + k))] 71) (Nat.le_refl _)
      have f0' := keep_cell HB (Nat.le_refl _) f0
      have f1' := keep_cell HB (Nat.le_refl _) f1
      clear hB HB
      by_cases hL : L (i + 1 + k) = L i
      rotate_left
      · have HN : Hid (ChdTo n L H (i + 1)) := HTO.out.next HAT.out (Or.inr hL) (by omega)
        go_wp2
        go_roundw
        case rel => exact ⟨i + 1, by omega, by go_num, HN.out, hm', hb'⟩
        case measure => simp [intOf]; omega
      have HL : Hid (L (i + 1 + k) = L i) := hL
      rw [hL] at d0 hm' hb' f0' f1'
      clear hL hm
      have hkey := key_edge (H i) (H (i + 1 + k)) (HW.out i hlt).2 (HW.out (i + 1 + k) hkn).2
      have hlook := enums_look L H (H i) (H (i + 1 + k)) (HW.out i hlt).2 (HW.out (i + 1 + k) hkn).2 n HW.out
      rcases hlook with ⟨hl1, hl2⟩ | ⟨q, hq, hq1, hq2, hl1, hl3⟩
      · have HS : Hid (¬ Hs n L H (H i) (H (i + 1 + k))) := fun ⟨x, h1, h2⟩ => hl2 x h1 h2
        clear hl2
        go_wp2_with (at_lookup; refine wpList_lookup_own_ok_int _ rfl _ _ 96 rfl 71 3 .i64 Try.keyLawE Try.underlying96 Try.underlying3 (Try.mapZeroE _) _ n _ rfl hm' _ _ rfl hkey ?_; intro cc hatk hwc)
        go_ret
        exact ⟨bans_no (fun hc => HAT.out.bad HL.out (by omega) hkn HS.out (HC.out.1 hc)), hb'⟩
      · have HS : Hid (Hs n L H (H i) (H (i + 1 + k))) := ⟨q, hq, hq1, hq2⟩
        clear hl3 hq1 hq2
        go_wp2_with (at_lookup; refine wpList_lookup_own_ok_int _ rfl _ _ 96 rfl 71 3 .i64 Try.keyLawE Try.underlying96 Try.underlying3 (Try.mapZeroE _) _ n _ rfl hm' _ _ rfl hkey ?_; intro cc hatk hwc)
        go_roundw
        case rel => exact ⟨k + 1, by omega, by go_num, HAT.out.next HL.out HS.out, hm', f0', f1', hb'⟩
        case measure => simp [intOf]; omega

end Go.Proofs.Ytdgnlpafmkhdjah

/-
  The program's iterator over triangles: what it hands over, whatever the rounds do, as long as its edges can be read and its own memory stays.
-/
set_option linter.unusedVariables false
set_option linter.unusedSimpArgs false
namespace Go.Proofs.Ytdgnlpafmkhdjah
open Go.RowKit Go.Shelf Go.Maps
attribute [local go_sem] Oper.semAt_some

theorem triangles_any (eo : Option Addr) (m ecap : Nat) (w : World) :
    Calls Try.prog 53 #[.slice eo m ecap] w fun e w' => e = .returned (.func (.func 86) #[] #[.pointer (some ⟨w.heap.size, 0, none⟩)]) ∧ w' = w.alloc (.cells #[.slice eo m ecap] 31) := by
  go_enter Try.func53, Try.ntmps53
  go_wp2
  go_ret
  exact ⟨rfl, rfl⟩

/-- Cells and maps from B on lie as they lay. -/
structure KeepsOwn (B : Nat) (W W' : World) : Prop where
  size : W.heap.size ≤ W'.heap.size
  same : ∀ (k : Nat) (o : Obj), B ≤ k → W.heap[k]? = some o → (o.isCells = true ∨ o.isWalk = true) → W'.heap[k]? = some o
theorem KeepsOwn.trans {B : Nat} {X Y Z : World} (h : KeepsOwn B X Y) (k : KeepsOwn B Y Z) : KeepsOwn B X Z := ⟨Nat.le_trans h.size k.size, fun i o hB hi ho => k.same i o hB (h.same i o hB hi ho) ho⟩
theorem KeepsOwn.putObj {B : Nat} {W : World} {l : Nat} {o o' : Obj} (hl : W.heap[l]? = some o) (h1 : o.isCells = false) (h2 : o.isWalk = false) : KeepsOwn B W (W.putObj l o') :=
  ⟨by simp [World.putObj], fun k x _ hk hx => by
    by_cases e : k = l
    · subst e
      rw [hl] at hk
      cases hk
      rw [h1, h2] at hx
      simp at hx
    · rw [World.putObj_heap_other e]; exact hk⟩
theorem KeepsOwn.cell {B b o : Nat} {W W' : World} {v : Value} (h : KeepsOwn B W W') (hb : B ≤ b) (hc : W.cell? ⟨b, o, none⟩ = some v) (hk : ∃ cur t fr, W.heap[b]? = some (.cells cur t fr)) : W'.cell? ⟨b, o, none⟩ = some v := by
  obtain ⟨cur, t, fr, hk⟩ := hk
  have := h.same b _ hb hk (.inl rfl)
  rw [World.cell?_of_block (show W'.heap[b]? = W.heap[b]? by rw [this, hk])]
  exact hc

theorem owns_walk {P : Program} {k : TypeId} {R : Value → Option (DataW Unit × List MemPlace)} {b n : Nat} {D : DataW Unit} {w : World} {o : Obj} (h : w.ownsMap P k R b n D) (ho : w.heap[b]? = some o) : o.isWalk = true := by
  unfold World.ownsMap at h
  rw [ho] at h
  cases o <;> simp_all [Obj.isWalk]
def trv (t : Tr) : Value := .agg #[.int .i64 (t.1 : Int), .int .i64 (t.2.1 : Int), .int .i64 (t.2.2 : Int)]

set_option maxRecDepth 100000 in
set_option maxHeartbeats 4000000 in
theorem tri_core (n : Nat) (hn : 1 ≤ n) (l bE : Nat) (eo : Option Addr) (m ecap : Nat) (L H : Nat → Int) (p : Int) (hm : m ≤ 1048576) (hp : p ≤ 24) (he : edB p L H m = true) (hc : ChdTo m L H m) (J Jx : List Tr → World → Prop) (W : World) (hJ : AbidesFrom W.heap.size J)
    (hRd : ∀ pre W1, J pre W1 → W1.cell? ⟨bE, 0, none⟩ = some (.slice eo m ecap) ∧ ERow W1 eo m L H)
    (hY : ∀ pre t W1, TOk m L H t → pre.length < m * m → J pre W1 → YieldAt Fence.wide (n - 1) Try.prog l #[trv t] W1 fun e W' => (e = .returned (.bool true) ∧ J (pre ++ [t]) W' ∧ KeepsOwn W.heap.size W1 W') ∨ (e = .returned (.bool false) ∧ Jx (pre ++ [t]) W'))
    (h0 : J [] W) :
    CallsIn Fence.wide n Try.prog 86 #[.func (.yield l) #[] #[], .pointer (some ⟨bE, 0, none⟩)] W fun e W' => (∃ v, e = .returned v) ∧ (J (allT m L H m) W' ∨ ∃ pre, Jx pre W') := by
  obtain ⟨r1, r2⟩ := hRd _ _ h0
  have hwf : EWf L H m := fun k hk => edge_wf (edB_at m he k hk) hp
  have HW : Hid (EWf L H m) := hwf
  clear hwf
  refine callsIn_of_wp Try.func86 rfl trivial ?_ rfl
  simp only [Try.ntmps86, List.size_toArray, List.length_cons, List.length_nil, Nat.reduceAdd, Nat.reduceSub, Array.replicate_succ, Array.replicate_zero, List.push_toArray, List.append_toArray, List.nil_append, List.cons_append]
  gi_wp2_with fail
  refine ⟨trivial, ?_⟩
  refine (callsIn_wide.2 (edgeNumbers_any eo m ecap L H hm HW.out _ r2)).mono ?_
  rintro e w1 ⟨rfl, hm1, hb1⟩
  have hJ1 : J [] w1 := hJ _ _ _ none h0 ⟨hb1.os, hb1.tape, hb1.output, hb1.size, fun k hk _ => hb1.block k hk⟩ (fun r e => by cases e)
  obtain ⟨s1, s2⟩ := hRd _ _ hJ1
  clear r1 r2 h0 hb1
  gi_wp2
  clear s1 s2
  gi_loopw [12] (fun x wr => ∃ i : Nat, i ≤ m ∧ x = .int .i64 i ∧ J (allT m L H i) wr ∧ wr.ownsMap Try.prog 71 (plainElem Try.prog 3) W.heap.size m (enums L H m)) (fun x _ => m - (intOf x).toNat)
  case atStart => exact ⟨0, Nat.zero_le _, rfl, hJ1, hm1⟩
  case round =>
    clear hJ1 hm1
    obtain ⟨i, hi, rfl, hJi, hmi⟩ := hrel
    by_cases hlt : i < m
    rotate_left
    · have him : i = m := by omega
      subst him
      gi_wp2
      go_end0
      exact ⟨⟨_, rfl⟩, .inl hJi⟩
    obtain ⟨s1, s2⟩ := hRd _ _ hJi
    obtain ⟨b, o, hao, c0, c1⟩ := s2 i hlt
    subst hao
    have hi1 : (0 : Int) ≤ (i : Int) := by omega
    have hi2 : (i : Int) < (m : Int) := by omega
    have hml := hmi.lt
    have hm' := hmi.alloc (.cells #[.int .i64 (L i), .int .i64 (H i)] 71)
    have hJ' : J (allT m L H i) (wr.alloc (.cells #[.int .i64 (L i), .int .i64 (H i)] 71)) := hJ _ _ _ none hJi (World.grownBy_alloc wr _ none) (fun r e => by cases e)
    have hLb : (wr.alloc (.cells #[.int .i64 (L i), .int .i64 (H i)] 71)).heap[wr.heap.size]? = some (.cells #[.int .i64 (L i), .int .i64 (H i)] 71) := World.alloc_heap_new wr _
    clear hJi hmi s1 s2
    obtain ⟨W0, hW0⟩ : ∃ W0, W0 = wr := ⟨_, rfl⟩
    subst hW0
    gi_wp2
    clear c0 c1
    gi_loopw [6] (fun x wq => ∃ (kk : Nat) (pre : List Tr), i < kk ∧ kk ≤ m ∧ x = .int .i64 kk ∧ pre ++ rowT m L H i (m - kk) kk = allT m L H (i + 1) ∧ J pre wq ∧ wq.ownsMap Try.prog 71 (plainElem Try.prog 3) W.heap.size m (enums L H m) ∧ wq.heap[W0.heap.size]? = some (.cells #[.int .i64 (L i), .int .i64 (H i)] 71)) (fun x _ => m - (intOf x).toNat)
    case atStart => exact ⟨i + 1, allT m L H i, by omega, by omega, by go_num, rfl, hJ', hm', hLb⟩
    case round =>
      clear hJ' hm' hLb
      obtain ⟨kk, pre, hik, hkm, rfl, hall, hJk, hmk, hLb⟩ := hrel
      obtain ⟨r1, r2⟩ := hRd _ _ hJk
      have f0 : wr.cell? ⟨W0.heap.size, 0, none⟩ = some (.int .i64 (L i)) := by simp [World.cell?, hLb]
      have f1 : wr.cell? ⟨W0.heap.size, 1, none⟩ = some (.int .i64 (H i)) := by simp [World.cell?, hLb]
      have HALL : Hid (pre ++ rowT m L H i (m - kk) kk = allT m L H (i + 1)) := hall
      clear hall
      by_cases hkn : kk < m
      rotate_left
      · have HE : Hid (pre = allT m L H (i + 1)) := by
          have := HALL.out
          rw [rowT_stop (by omega), List.append_nil] at this
          exact this
        have hd : decide ((kk : Int) < (m : Int)) = false := by simp; omega
        gi_wp2
        refine wpIn_region_quiet_lit rfl (by kernel_rfl) (by kernel_rfl) ?_
        repeat (first | gi_big_quiet_step (fail) | (refine BigFrame.wpQuietIn_skip (fun _ _ _ _ => trivial) rfl ?_; simp only [go_sem, Act.put, List.setIfInBounds_toArray, List.set_cons_succ, List.set_cons_zero]))
        refine wpQuietIn_nil ?_
        intro _ hw'
        obtain ⟨nq, hw''⟩ := hw'
        subst hw''
        gi_wp2
        go_roundw
        case rel => exact ⟨i + 1, by omega, by go_num, by rw [← HE.out]; exact hJ _ _ _ none hJk ⟨rfl, rfl, rfl, Nat.le_refl _, fun _ _ _ => rfl⟩ (fun r e => by cases e), ownsMap_block hmk rfl⟩
        case measure => simp [intOf]; omega
      obtain ⟨b', o', hao', d0, d1⟩ := r2 kk hkn
      simp only [Option.some.injEq, Addr.mk.injEq, and_true] at hao'
      obtain ⟨rfl, rfl⟩ := hao'
      have hd : decide ((kk : Int) < (m : Int)) = true := by simp; omega
      have hk1 : (0 : Int) ≤ (kk : Int) := by omega
      have hk2 : (kk : Int) < (m : Int) := by omega
      by_cases hL : L kk = L i
      rotate_left
      · have HE : Hid (pre = allT m L H (i + 1)) := by
          have := HALL.out
          rw [rowT_stop (fun h => hL h.2), List.append_nil] at this
          exact this
        have hLd : decide (L kk = L i) = false := by simpa using hL
        gi_wp2
        refine wpIn_region_quiet_lit rfl (by kernel_rfl) (by kernel_rfl) ?_
        repeat (first | gi_big_quiet_step (fail) | (refine BigFrame.wpQuietIn_skip (fun _ _ _ _ => trivial) rfl ?_; simp only [go_sem, Act.put, List.setIfInBounds_toArray, List.set_cons_succ, List.set_cons_zero]))
        refine wpQuietIn_nil ?_
        intro _ hw'
        obtain ⟨nq, hw''⟩ := hw'
        subst hw''
        gi_wp2
        go_roundw
        case rel => exact ⟨i + 1, by omega, by go_num, by rw [← HE.out]; exact hJ _ _ _ none hJk ⟨rfl, rfl, rfl, Nat.le_refl _, fun _ _ _ => rfl⟩ (fun r e => by cases e), ownsMap_block hmk rfl⟩
        case measure => simp [intOf]; omega
      have HT : Hid (TOk m L H (i, kk, fnd L H (H i) (H kk) m)) := tok_of he hc hik hkn hL
      have HG : Hid (rowT m L H i (m - kk) kk = (i, kk, fnd L H (H i) (H kk) m) :: rowT m L H i (m - (kk + 1)) (kk + 1)) := rowT_go hkn hL
      rw [hL] at d0
      clear hL
      obtain ⟨E, hE⟩ : ∃ E, fnd L H (H i) (H kk) m = E := ⟨_, rfl⟩
      rw [hE] at HT HG
      clear hE
      gi_wp2
      refine wpIn_region_quiet_lit rfl (by kernel_rfl) (by kernel_rfl) ?_
      repeat (first | gi_big_quiet_step (fail) | (refine BigFrame.wpQuietIn_skip (fun _ _ _ _ => trivial) rfl ?_; simp only [go_sem, Act.put, List.setIfInBounds_toArray, List.set_cons_succ, List.set_cons_zero]))
      refine wpQuietIn_nil ?_
      intro _ hw'
      obtain ⟨nq, hw''⟩ := hw'
      subst hw''
      have hJ5 : J pre (wr.drewN nq) := hJ _ _ _ none hJk ⟨rfl, rfl, rfl, Nat.le_refl _, fun _ _ _ => rfl⟩ (fun r e => by cases e)
      have hm5 : (wr.drewN nq).ownsMap Try.prog 71 (plainElem Try.prog 3) W.heap.size m (enums L H m) := ownsMap_block hmk rfl
      have hL5 : (wr.drewN nq).heap[W0.heap.size]? = some (.cells #[.int .i64 (L i), .int .i64 (H i)] 71) := hLb
      clear r1 r2 f0 f1 d0 d1 hJk hmk hLb
      generalize wr.drewN nq = W5 at hJ5 hm5 hL5 ⊢
      obtain ⟨r1, r2⟩ := hRd _ _ hJ5
      have f0 : W5.cell? ⟨W0.heap.size, 0, none⟩ = some (.int .i64 (L i)) := by simp [World.cell?, hL5]
      have f1 : W5.cell? ⟨W0.heap.size, 1, none⟩ = some (.int .i64 (H i)) := by simp [World.cell?, hL5]
      obtain ⟨b', o', hao', d0, d1⟩ := r2 kk hkn
      simp only [Option.some.injEq, Addr.mk.injEq, and_true] at hao'
      obtain ⟨rfl, rfl⟩ := hao'
      have hlk : ∀ q, (Instr.lookup 96 (.map (some W.heap.size)) (.agg #[.int .i64 (H i), .int .i64 (H kk)]) false).run Try.prog (W5.drewN q) = .ok (.int .i64 (E : Int)) (W5.drewN q) := fun q => by
        have hkey := key_edge (H i) (H kk) (HW.out i hlt).2 (HW.out kk hkn).2
        obtain ⟨c, hrun, hat, _⟩ := (ownsMap_block (w' := W5.drewN q) hm5 rfl).lookup_int Try.keyLawE Try.underlying96 Try.underlying3 (Try.mapZeroE _) hkey
        rcases enums_look L H (H i) (H kk) (HW.out i hlt).2 (HW.out kk hkn).2 m HW.out with ⟨_, h2⟩ | ⟨x, hx, h1, h2, _, h4⟩
        · exact absurd ⟨HT.out.2.2.2.2.2.1, HT.out.2.2.2.2.2.2⟩ (h2 E HT.out.2.2.1)
        · have hxE : x = E := ed_once he hx HT.out.2.2.1 (by rw [h1]; exact HT.out.2.2.2.2.2.1.symm) (by rw [h2]; exact HT.out.2.2.2.2.2.2.symm)
          rw [h4, hxE] at hat
          simp only [DataW.lit.injEq, Lit.int.injEq, true_and] at hat
          rw [hrun, hat]
      gi_wp2
      refine wpIn_region_quiet_lit rfl (by kernel_rfl) (by kernel_rfl) ?_
      repeat (first | gi_big_quiet_step (fail) | (refine BigFrame.wpQuietIn_skip (fun _ _ _ _ => trivial) rfl ?_; simp only [go_sem, Act.put, List.setIfInBounds_toArray, List.set_cons_succ, List.set_cons_zero]))
      refine wpQuietIn_nil ?_
      intro _ hw'
      obtain ⟨nq, hw''⟩ := hw'
      subst hw''
      have hJ6 : J pre (W5.drewN nq) := hJ _ _ _ none hJ5 ⟨rfl, rfl, rfl, Nat.le_refl _, fun _ _ _ => rfl⟩ (fun r e => by cases e)
      have hm6 : (W5.drewN nq).ownsMap Try.prog 71 (plainElem Try.prog 3) W.heap.size m (enums L H m) := ownsMap_block hm5 rfl
      have hL6 : (W5.drewN nq).heap[W0.heap.size]? = some (.cells #[.int .i64 (L i), .int .i64 (H i)] 71) := hL5
      clear r1 r2 f0 f1 d0 d1 hJ5 hm5 hL5 hlk
      generalize W5.drewN nq = W6 at hJ6 hm6 hL6 ⊢
      have hlen : pre.length < m * m := by
        have h1 := congrArg List.length HALL.out
        rw [HG.out] at h1
        have h2 := allT_len (n := m) (L := L) (H := H) (i + 1)
        have h3 : (i + 1) * m ≤ m * m := Nat.mul_le_mul_right m (by omega)
        simp only [List.length_append, List.length_cons] at h1
        omega
      obtain ⟨fn, tmps, assign, body, hy, hR⟩ := hY pre (i, kk, E) W6 HT.out hlen hJ6
      have hR' := hR.mono (R' := fun e W' => ∃ b : Bool, e = .returned (.bool b) ∧ ((b = true ∧ J (pre ++ [(i, kk, E)]) W' ∧ KeepsOwn W.heap.size W6 W') ∨ (b = false ∧ Jx (pre ++ [(i, kk, E)]) W'))) (fun e W' h => by
        rcases h with ⟨h1, h2⟩ | ⟨h1, h2⟩
        · exact ⟨true, h1, .inl ⟨rfl, h2⟩⟩
        · exact ⟨false, h1, .inr ⟨rfl, h2⟩⟩)
      clear hR
      simp only [trv] at hy
      gi_wp2
      refine hR'.mono ?_
      rintro e W7 ⟨bb, rfl, hor⟩
      rcases hor with ⟨rfl, hJ7, hK7⟩ | ⟨rfl, hJx7⟩
      · have hm7 : W7.ownsMap Try.prog 71 (plainElem Try.prog 3) W.heap.size m (enums L H m) := by
          refine ownsMap_block hm6 ?_
          obtain ⟨o6, ho6⟩ : ∃ o6, W6.heap[W.heap.size]? = some o6 := ⟨_, Array.getElem?_eq_getElem hm6.lt⟩
          rw [ho6]
          exact hK7.same _ _ (Nat.le_refl _) ho6 (.inr (owns_walk hm6 ho6))
        have hL7 := hK7.same _ _ (by omega) hL6 (.inl rfl)
        gi_wp2
        go_roundw
        case rel => exact ⟨kk + 1, pre ++ [(i, kk, E)], by omega, by omega, by go_num, by rw [← HALL.out, HG.out]; simp, hJ7, hm7, hL7⟩
        case measure => simp [intOf]; omega
      · gi_wp2
        refine bodyPost_ret (results_none rfl _ _ _) rfl ?_
        exact ⟨⟨_, rfl⟩, .inr ⟨_, hJx7⟩⟩

end Go.Proofs.Ytdgnlpafmkhdjah

/-
  Ranks, the plain part: which numbers were seen, each number's place in a list, and that a list of n numbers below n, none twice, has them all.
-/
set_option linter.unusedVariables false
set_option linter.unusedSimpArgs false
namespace Go.Proofs.Ytdgnlpafmkhdjah

/-- Was q among the first k numbers? -/
def sn (P : Nat → Int) : Nat → Nat → Bool
  | 0, _ => false
  | k + 1, q => (P k == (q : Int)) || sn P k q
theorem sn_succ (P : Nat → Int) (k q : Nat) : sn P (k + 1) q = ((P k == (q : Int)) || sn P k q) := rfl
/-- The last place among the first k at which q stands, else z. -/
def rk (P : Nat → Int) (z : Int) : Nat → Nat → Int
  | 0, _ => z
  | k + 1, q => if P k = (q : Int) then (k : Int) else rk P z k q
/-- The first k numbers are below m, none twice. -/
def eachB (m : Nat) (P : Nat → Int) : Nat → Bool
  | 0 => true
  | k + 1 => eachB m P k && (inB (P k) 0 ((m : Int) - 1) && !sn P k (P k).toNat)

theorem rk_sn (P : Nat → Int) : ∀ k q, (sn P k q = true ↔ 0 ≤ rk P (-1) k q)
  | 0, q => by simp [sn, rk]
  | k + 1, q => by
    unfold sn rk
    have := rk_sn P k q
    by_cases h : P k = (q : Int)
    · simp [h]
    · simp [h, this]
theorem rk_same (P : Nat → Int) (z z' : Int) : ∀ k q, sn P k q = true → rk P z k q = rk P z' k q
  | 0, q, h => by simp [sn] at h
  | k + 1, q, h => by
    unfold sn at h
    unfold rk
    by_cases e : P k = (q : Int)
    · simp [e]
    · rw [if_neg e, if_neg e]
      exact rk_same P z z' k q (by simpa [e] using h)
theorem rk_hi (P : Nat → Int) : ∀ k q, rk P (-1) k q < (k : Int) ∧ -1 ≤ rk P (-1) k q
  | 0, q => by simp [rk]
  | k + 1, q => by
    unfold rk
    have := rk_hi P k q
    split <;> omega
theorem eachB_le {m : Nat} {P : Nat → Int} : ∀ n, eachB m P n = true → ∀ k, k ≤ n → eachB m P k = true
  | 0, h, k, hk => by
    have : k = 0 := by omega
    subst this; rfl
  | n + 1, h, k, hk => by
    by_cases e : k = n + 1
    · subst e; exact h
    · simp [eachB] at h
      exact eachB_le n h.1 k (by omega)
theorem eachB_no {m : Nat} {P : Nat → Int} {k n : Nat} (h : eachB m P (k + 1) = false) (hk : k < n) : eachB m P n = false := by
  cases hn : eachB m P n
  · rfl
  · rw [eachB_le n hn (k + 1) (by omega)] at h; cases h

theorem sn_at {P : Nat → Int} {k q : Nat} (h : P k = (q : Int)) (j : Nat) : sn P (k + 1) j = if j = q then true else sn P k j := by
  rw [sn_succ, h]
  by_cases e : j = q
  · simp [e]
  · have h1 : ((q : Int) == (j : Int)) = false := by rw [Bool.eq_false_iff]; simp; omega
    rw [h1, if_neg e]; rfl
theorem rk_at {P : Nat → Int} {z : Int} {k q : Nat} (h : P k = (q : Int)) (j : Nat) : rk P z (k + 1) j = if j = q then (k : Int) else rk P z k j := by
  show (if P k = (j : Int) then (k : Int) else rk P z k j) = _
  by_cases e : j = q
  · rw [if_pos e, if_pos (by omega)]
  · rw [if_neg e, if_neg (by omega)]
theorem eachB_at {m : Nat} {P : Nat → Int} {k q : Nat} (he : eachB m P k = true) (h : P k = (q : Int)) (hi : inB (P k) 0 ((m : Int) - 1) = true) : eachB m P (k + 1) = !sn P k q := by
  show (eachB m P k && (inB (P k) 0 ((m : Int) - 1) && !sn P k (P k).toNat)) = _
  rw [he, hi, h]
  simp

/-- How many of the first n are there. -/
def cntB (f : Nat → Bool) : Nat → Nat
  | 0 => 0
  | n + 1 => cntB f n + (if f n then 1 else 0)
theorem cntB_le (f : Nat → Bool) : ∀ n, cntB f n ≤ n
  | 0 => Nat.le_refl _
  | n + 1 => by unfold cntB; have := cntB_le f n; split <;> omega
theorem cntB_congr {f g : Nat → Bool} : ∀ n, (∀ q, q < n → f q = g q) → cntB f n = cntB g n
  | 0, _ => rfl
  | n + 1, h => by unfold cntB; rw [cntB_congr n (fun q hq => h q (by omega)), h n (by omega)]
theorem cntB_full {f : Nat → Bool} : ∀ n, cntB f n = n → ∀ q, q < n → f q = true
  | 0, _, q, hq => by omega
  | n + 1, h, q, hq => by
    unfold cntB at h
    have hl := cntB_le f n
    cases hf : f n
    · rw [hf] at h; simp at h; omega
    · rw [hf] at h
      simp at h
      by_cases e : q = n
      · subst e; exact hf
      · exact cntB_full n (by omega) q (by omega)
theorem cntB_set {f g : Nat → Bool} {i : Nat} : ∀ n, i < n → f i = false → (∀ q, q < n → g q = (q == i || f q)) → cntB g n = cntB f n + 1
  | 0, hi, _, _ => by omega
  | n + 1, hi, h0, hg => by
    unfold cntB
    rw [hg n (by omega)]
    by_cases e : i = n
    · subst e
      have e2 : cntB g i = cntB f i := cntB_congr i (fun q hq => by
        rw [hg q (by omega)]
        have : q ≠ i := by omega
        simp [this])
      rw [e2, h0]
      simp
    · have : n ≠ i := fun h => e h.symm
      rw [cntB_set n (by omega) h0 (fun q hq => hg q (by omega))]
      simp [this]; omega
theorem cntB_less {f : Nat → Bool} {i n : Nat} (hi : i < n) (h : f i = false) : cntB f n < n := by
  have h1 := cntB_le f n
  by_cases e : cntB f n = n
  · have := cntB_full n e i hi
    rw [h] at this; cases this
  · omega

theorem cnt_sn {m : Nat} {P : Nat → Int} : ∀ k, eachB m P k = true → cntB (sn P k) m = k
  | 0, _ => by
    have : ∀ n, cntB (sn P 0) n = 0 := fun n => by
      induction n with
      | zero => rfl
      | succ n ih => unfold cntB; rw [ih]; simp [sn]
    exact this m
  | k + 1, h => by
    simp [eachB, inB] at h
    obtain ⟨h1, ⟨h2, h3⟩, h4⟩ := h
    have := cnt_sn k h1
    have e := cntB_set (f := sn P k) (g := sn P (k + 1)) (i := (P k).toNat) m (by omega) h4 (fun q hq => by
      rw [sn_succ]
      congr 1
      rw [Bool.eq_iff_iff, beq_iff_eq, beq_iff_eq]
      omega)
    omega
theorem each_all {n : Nat} {P : Nat → Int} (h : eachB n P n = true) : ∀ q, q < n → sn P n q = true := cntB_full n (cnt_sn n h)

/-- The length of what Ranks answers. -/
def okR (n : Nat) (P : Nat → Int) : Bool := decide (1 ≤ n) && (decide (n ≤ 24) && eachB n P n)
def lenR (n : Nat) (P : Nat → Int) : Nat := if okR n P then n else 0
theorem lenR_le (n : Nat) (P : Nat → Int) : lenR n P ≤ 24 := by
  unfold lenR
  split
  · next h => simp [okR] at h; omega
  · omega

end Go.Proofs.Ytdgnlpafmkhdjah

/-
  Who is whose neighbour, the plain part: the square of the arcs, a place that is taken away, which goes next.
-/
set_option linter.unusedVariables false
set_option linter.unusedSimpArgs false
namespace Go.Proofs.Ytdgnlpafmkhdjah

/-- The square with one entry turned. -/
def upd (B : Nat → Nat → Bool) (x y : Nat) (v : Bool) : Nat → Nat → Bool := fun x' y' => if x' = x ∧ y' = y then v else B x' y'
def upd2 (B : Nat → Nat → Bool) (x y : Nat) (v : Bool) : Nat → Nat → Bool := upd (upd B x y v) y x v
theorem upd2_at (B : Nat → Nat → Bool) (x y : Nat) (v : Bool) (x' y' : Nat) : upd2 B x y v x' y' = if (x' = x ∧ y' = y) ∨ (x' = y ∧ y' = x) then v else B x' y' := by
  unfold upd2 upd
  by_cases h1 : x' = y ∧ y' = x
  · rw [if_pos h1, if_pos (Or.inr h1)]
  · rw [if_neg h1]
    by_cases h2 : x' = x ∧ y' = y
    · rw [if_pos h2, if_pos (Or.inl h2)]
    · rw [if_neg h2, if_neg (fun h => by rcases h with h | h; exact h2 h; exact h1 h)]
/-- Of the first k arcs. -/
def nbA (F T : Nat → Int) : Nat → Nat → Nat → Bool
  | 0 => fun _ _ => false
  | k + 1 => upd2 (nbA F T k) (F k).toNat (T k).toNat true
/-- Place a taken away. -/
def tk (B : Nat → Nat → Bool) (a : Nat) : Nat → Nat → Bool := fun x y => if x = a ∨ y = a then false else (B x y || (B a x && (B a y && x != y)))
/-- Both ways alike, none beside itself. -/
def Fair (B : Nat → Nat → Bool) : Prop := (∀ x y, B x y = B y x) ∧ ∀ x, B x x = false
theorem fair_nbA {F T : Nat → Int} : ∀ n, (∀ k, k < n → (F k).toNat ≠ (T k).toNat) → Fair (nbA F T n)
  | 0, _ => ⟨fun _ _ => rfl, fun _ => rfl⟩
  | n + 1, h => by
    obtain ⟨h1, h2⟩ := fair_nbA n (fun k hk => h k (by omega))
    have hne := h n (by omega)
    refine ⟨fun x y => ?_, fun x => ?_⟩
    · show upd2 _ _ _ _ _ _ = upd2 _ _ _ _ _ _
      rw [upd2_at, upd2_at, h1 x y]
      by_cases e : (x = (F n).toNat ∧ y = (T n).toNat) ∨ (x = (T n).toNat ∧ y = (F n).toNat)
      · rw [if_pos e, if_pos (by omega)]
      · rw [if_neg e, if_neg (by omega)]
    · show upd2 _ _ _ _ _ _ = _
      rw [upd2_at, if_neg (by omega), h2]
theorem fair_tk {B : Nat → Nat → Bool} (h : Fair B) (a : Nat) : Fair (tk B a) := by
  refine ⟨fun x y => ?_, fun x => ?_⟩
  · unfold tk
    by_cases e : x = a ∨ y = a
    · rw [if_pos e, if_pos e.symm]
    · rw [if_neg e, if_neg (fun h => e h.symm), h.1 x y]
      have : (x != y) = (y != x) := by
        rw [Bool.eq_iff_iff, bne_iff_ne, bne_iff_ne]
        exact ⟨fun h e => h e.symm, fun h e => h e.symm⟩
      rw [this]
      cases B a x <;> cases B a y <;> simp
  · unfold tk
    split
    · rfl
    · rw [h.2]; simp

/-- The one with the fewest neighbours among the first k that are not gone, and how many. -/
def pick (p : Nat) (B : Nat → Nat → Bool) (gone : Nat → Bool) : Nat → Nat × Nat
  | 0 => (0, p)
  | k + 1 => if gone k then pick p B gone k else if cntB (B k) p < (pick p B gone k).2 then (k, cntB (B k) p) else pick p B gone k
/-- Of the first k is none left. -/
def noneB (gone : Nat → Bool) : Nat → Bool
  | 0 => true
  | k + 1 => noneB gone k && gone k
theorem noneB_all {gone : Nat → Bool} : ∀ k, noneB gone k = true → cntB gone k = k
  | 0, _ => rfl
  | k + 1, h => by
    simp [noneB] at h
    unfold cntB
    rw [noneB_all k h.1, h.2]; rfl
theorem pick_none {p : Nat} {B : Nat → Nat → Bool} {gone : Nat → Bool} : ∀ k, noneB gone k = true → pick p B gone k = (0, p)
  | 0, _ => rfl
  | k + 1, h => by
    simp [noneB] at h
    unfold pick
    rw [if_pos h.2, pick_none k h.1]
theorem pick_le {p : Nat} {B : Nat → Nat → Bool} {gone : Nat → Bool} : ∀ k, (pick p B gone k).2 ≤ p
  | 0 => Nat.le_refl _
  | k + 1 => by
    unfold pick
    have := pick_le (p := p) (B := B) (gone := gone) k
    split
    · exact this
    · split
      · exact cntB_le _ _
      · exact this
theorem pick_some {p : Nat} {B : Nat → Nat → Bool} {gone : Nat → Bool} (hB : Fair B) : ∀ k, k ≤ p → noneB gone k = false → (pick p B gone k).1 < k ∧ gone (pick p B gone k).1 = false ∧ (pick p B gone k).2 < p
  | 0, _, h => by simp [noneB] at h
  | k + 1, hk, h => by
    have hc : cntB (B k) p < p := cntB_less (i := k) (by omega) (hB.2 k)
    unfold pick
    cases hg : gone k
    · simp only [Bool.false_eq_true, if_false]
      split
      · exact ⟨by simp, hg, hc⟩
      · next hlt =>
        cases hn : noneB gone k
        · have := pick_some (p := p) hB k (Nat.le_of_succ_le hk) hn
          exact ⟨by omega, this.2⟩
        · rw [pick_none k hn] at hlt
          simp at hlt
          omega
    · simp only [if_true]
      have : noneB gone k = false := by
        cases hn : noneB gone k
        · rfl
        · simp [noneB, hn, hg] at h
      have := pick_some (p := p) hB k (Nat.le_of_succ_le hk) this
      exact ⟨by omega, this.2⟩

/-- What stands when k places have been taken away: the square, those that are gone, the list. -/
def goneU (gone : Nat → Bool) (a : Nat) : Nat → Bool := fun q => if q = a then true else gone q
def run3 (p : Nat) (B : Nat → Nat → Bool) : Nat → (Nat → Nat → Bool) × (Nat → Bool) × (Nat → Int)
  | 0 => (B, fun _ => false, fun _ => 0)
  | k + 1 =>
    let s := run3 p B k
    let a := (pick p s.1 s.2.1 p).1
    (tk s.1 a, goneU s.2.1 a, fun j => if j = k then (a : Int) else s.2.2 j)
theorem run3_fair {p : Nat} {B : Nat → Nat → Bool} (h : Fair B) : ∀ k, Fair (run3 p B k).1
  | 0 => h
  | k + 1 => fair_tk (run3_fair h k) _
theorem run3_gone {p : Nat} {B : Nat → Nat → Bool} (h : Fair B) : ∀ k, k ≤ p → cntB (run3 p B k).2.1 p = k ∧ (k < p → noneB (run3 p B k).2.1 p = false)
  | 0, hk => by
    have h0 : ∀ m, cntB (fun _ => false) m = 0 := fun m => by
      induction m with
      | zero => rfl
      | succ m ih => unfold cntB; rw [ih]; rfl
    refine ⟨h0 p, fun hp => ?_⟩
    cases hn : noneB (run3 p B 0).2.1 p
    · rfl
    · have := noneB_all p hn
      have := h0 p
      simp only [run3] at *
      omega
  | k + 1, hk => by
    obtain ⟨h1, h2⟩ := run3_gone (p := p) h k (Nat.le_of_succ_le hk)
    have h3 := pick_some (p := p) (run3_fair (p := p) h k) p (Nat.le_refl _) (h2 (by omega))
    have e : cntB (run3 p B (k + 1)).2.1 p = k + 1 := by
      have := cntB_set (f := (run3 p B k).2.1) (g := (run3 p B (k + 1)).2.1) p h3.1 h3.2.1 (fun q hq => by
        show goneU _ _ q = _
        unfold goneU
        by_cases e : q = (pick p (run3 p B k).1 (run3 p B k).2.1 p).1
        · rw [if_pos e]; simp [e]
        · rw [if_neg e]; simp [e])
      omega
    refine ⟨e, fun hp => ?_⟩
    cases hn : noneB (run3 p B (k + 1)).2.1 p
    · rfl
    · have := noneB_all p hn
      omega
theorem run3_place {p : Nat} {B : Nat → Nat → Bool} (h : Fair B) {k : Nat} (hk : k < p) : (pick p (run3 p B k).1 (run3 p B k).2.1 p).1 < p :=
  (pick_some (run3_fair h k) p (Nat.le_refl _) ((run3_gone h k (by omega)).2 hk)).1

end Go.Proofs.Ytdgnlpafmkhdjah

/-
  The neighbours of a place as a list, the plain part: how many come ahead of a place, which is the i-th; the square while a place is being taken away.
-/
set_option linter.unusedVariables false
set_option linter.unusedSimpArgs false
namespace Go.Proofs.Ytdgnlpafmkhdjah

/-- The numbers below k that are there, in a list. -/
def nf (f : Nat → Bool) : Nat → (Nat → Int)
  | 0 => fun _ => 0
  | k + 1 => if f k then (fun j => if j = cntB f k then (k : Int) else nf f k j) else nf f k
theorem cntB_mono (f : Nat → Bool) {a b : Nat} (h : a ≤ b) : cntB f a ≤ cntB f b := by
  induction b with
  | zero => have : a = 0 := by omega
            subst this; exact Nat.le_refl _
  | succ b ih =>
    by_cases e : a = b + 1
    · subst e; exact Nat.le_refl _
    · have h1 := ih (by omega)
      have h2 : cntB f b ≤ cntB f (b + 1) := by
        show cntB f b ≤ cntB f b + _
        omega
      omega
theorem cntB_succ {f : Nat → Bool} {k : Nat} (h : f k = true) : cntB f (k + 1) = cntB f k + 1 := by simp [cntB, h]
theorem cntB_same {f : Nat → Bool} {k : Nat} (h : f k = false) : cntB f (k + 1) = cntB f k := by simp [cntB, h]
theorem cntB_inj {f : Nat → Bool} {x y : Nat} (hx : f x = true) (hy : f y = true) (h : cntB f x = cntB f y) : x = y := by
  rcases Nat.lt_trichotomy x y with hl | e | hl
  · have h1 := cntB_mono f (show x + 1 ≤ y by omega)
    rw [cntB_succ hx] at h1; omega
  · exact e
  · have h1 := cntB_mono f (show y + 1 ≤ x by omega)
    rw [cntB_succ hy] at h1; omega
theorem nf_at {f : Nat → Bool} : ∀ p i, i < cntB f p → ∃ q : Nat, q < p ∧ nf f p i = (q : Int) ∧ f q = true ∧ cntB f q = i
  | 0, i, h => by simp [cntB] at h
  | p + 1, i, h => by
    unfold nf
    cases hf : f p
    · rw [cntB_same hf] at h
      obtain ⟨q, h1, h2, h3⟩ := nf_at p i h
      exact ⟨q, by omega, by simpa using h2, h3⟩
    · rw [cntB_succ hf] at h
      simp only [if_true]
      by_cases e : i = cntB f p
      · exact ⟨p, by omega, by rw [if_pos e], hf, e.symm⟩
      · obtain ⟨q, h1, h2, h3⟩ := nf_at (f := f) p i (by omega)
        exact ⟨q, by omega, by rw [if_neg e]; exact h2, h3⟩

/-- Is x among the first i that are there? -/
def am (f : Nat → Bool) (i x : Nat) : Bool := f x && decide (cntB f x < i)
theorem am_zero (f : Nat → Bool) (x : Nat) : am f 0 x = false := by simp [am]
theorem am_succ {f : Nat → Bool} {i q : Nat} (hq : f q = true) (hc : cntB f q = i) (x : Nat) : am f (i + 1) x = (am f i x || x == q) := by
  unfold am
  by_cases e : x = q
  · subst e; simp [hq, hc]
  · cases hx : f x
    · have : (x == q) = false := by simpa using e
      simp [this]
    · have h1 : cntB f x ≠ i := fun h => e (cntB_inj hx hq (by omega))
      have h2 : (x == q) = false := by simpa using e
      rw [h2]
      simp; omega
theorem am_all {f : Nat → Bool} {p x : Nat} (hx : x < p) : am f (cntB f p) x = f x := by
  unfold am
  cases h : f x
  · rfl
  · have := cntB_mono f (show x + 1 ≤ p by omega)
    rw [cntB_succ h] at this
    simp; omega

/-- While a is being taken away: the first i of its neighbours are done; q is joined with the first k. -/
def mid (B : Nat → Nat → Bool) (a i q k : Nat) : Nat → Nat → Bool := fun x y =>
  if x = a then B a y && !am (B a) i y else if y = a then B a x && !am (B a) i x
  else B x y || ((am (B a) i x && (B a y && x != y)) || (x == q && (am (B a) k y && x != y)))
theorem mid_start {B : Nat → Nat → Bool} (hB : Fair B) (a q x y : Nat) : mid B a 0 q 0 x y = B x y := by
  unfold mid
  simp only [am_zero]
  split
  · next h => subst h; simp
  · split
    · next h => subst h; simp [hB.1 x y]
    · simp
theorem mid_skip {B : Nat → Nat → Bool} {a i q q' x y : Nat} : mid B a i q 0 x y = mid B a i q' 0 x y := by
  unfold mid
  simp only [am_zero]
  simp
theorem mid_join {B : Nat → Nat → Bool} (hB : Fair B) {a i q k q' : Nat} (hq : B a q = true) (hq' : B a q' = true) (hc : cntB (B a) q' = k) (hne : q ≠ q') (x y : Nat) : upd (mid B a i q k) q q' true x y = mid B a i q (k + 1) x y := by
  have ha : q ≠ a := fun e => by rw [e, hB.2] at hq; cases hq
  have ha' : q' ≠ a := fun e => by rw [e, hB.2] at hq'; cases hq'
  unfold upd
  by_cases e : x = q ∧ y = q'
  · obtain ⟨rfl, rfl⟩ := e
    rw [if_pos ⟨rfl, rfl⟩]
    unfold mid
    rw [if_neg ha, if_neg ha', am_succ hq' hc]
    have : (x != y) = true := by simpa using hne
    simp [this]
  · rw [if_neg e]
    unfold mid
    by_cases h1 : x = a
    · rw [if_pos h1, if_pos h1]
    · rw [if_neg h1, if_neg h1]
      by_cases h2 : y = a
      · rw [if_pos h2, if_pos h2]
      · rw [if_neg h2, if_neg h2, am_succ hq' hc]
        by_cases h3 : x = q
        · have h4 : (y == q') = false := by
            have : y ≠ q' := fun h => e ⟨h3, h⟩
            simpa using this
          rw [h4]; simp
        · have h4 : (x == q) = false := by simpa using h3
          rw [h4]; simp
theorem mid_pass {B : Nat → Nat → Bool} {a i q k : Nat} (hq : B a q = true) (hc : cntB (B a) q = k) (x y : Nat) : mid B a i q k x y = mid B a i q (k + 1) x y := by
  unfold mid
  rw [am_succ hq hc]
  by_cases h1 : x = a
  · rw [if_pos h1, if_pos h1]
  · rw [if_neg h1, if_neg h1]
    by_cases h2 : y = a
    · rw [if_pos h2, if_pos h2]
    · rw [if_neg h2, if_neg h2]
      by_cases h3 : x = q
      · by_cases h4 : y = q
        · subst h3 h4; simp
        · have : (y == q) = false := by simpa using h4
          rw [this]; simp
      · have h4 : (x == q) = false := by simpa using h3
        rw [h4]; simp
theorem mid_done {B : Nat → Nat → Bool} (hB : Fair B) {a i q p : Nat} (hq : B a q = true) (hc : cntB (B a) q = i) {x y : Nat} (hx : x < p) (hy : y < p) : upd (upd (mid B a i q (cntB (B a) p)) a q false) q a false x y = mid B a (i + 1) 0 0 x y := by
  have ha : q ≠ a := fun e => by rw [e, hB.2] at hq; cases hq
  have ha' : ¬ a = q := fun e => ha e.symm
  unfold upd
  by_cases e1 : x = q ∧ y = a
  · obtain ⟨rfl, rfl⟩ := e1
    rw [if_pos ⟨rfl, rfl⟩]
    unfold mid
    rw [if_neg ha, if_pos rfl, am_succ hq hc]; simp
  · rw [if_neg e1]
    by_cases e2 : x = a ∧ y = q
    · obtain ⟨rfl, rfl⟩ := e2
      rw [if_pos ⟨rfl, rfl⟩]
      unfold mid
      rw [if_pos rfl, am_succ hq hc]; simp
    · rw [if_neg e2]
      unfold mid
      rw [am_succ hq hc, am_succ hq hc, am_all hy]
      by_cases h1 : x = a
      · rw [if_pos h1, if_pos h1]
        have : (y == q) = false := by
          have : y ≠ q := fun h => e2 ⟨h1, h⟩
          simpa using this
        rw [this]; simp
      · rw [if_neg h1, if_neg h1]
        by_cases h2 : y = a
        · rw [if_pos h2, if_pos h2]
          have : (x == q) = false := by
            have : x ≠ q := fun h => e1 ⟨h, h2⟩
            simpa using this
          rw [this]; simp
        · rw [if_neg h2, if_neg h2, am_zero]
          cases am (B a) i x <;> cases (x == q) <;> simp
theorem mid_end {B : Nat → Nat → Bool} (hB : Fair B) {a p q x y : Nat} (hx : x < p) (hy : y < p) : mid B a (cntB (B a) p) q 0 x y = tk B a x y := by
  unfold mid tk
  rw [am_all hx, am_all hy, am_zero]
  by_cases h1 : x = a
  · rw [if_pos h1, if_pos (Or.inl h1)]; simp
  · rw [if_neg h1]
    by_cases h2 : y = a
    · rw [if_pos h2, if_pos (Or.inr h2)]; simp
    · rw [if_neg h2, if_neg (fun h => by rcases h with h | h; exact h1 h; exact h2 h)]; simp

end Go.Proofs.Ytdgnlpafmkhdjah
