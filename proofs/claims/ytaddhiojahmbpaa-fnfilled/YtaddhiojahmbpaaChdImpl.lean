/-
  Chordal: the program's. For every list of at most 2^20 edges.
-/
import Derived.Test.YtaddhiojahmbpaaChd
import Derived.Test.YtaddhiojahmbpaaEdMap
set_option linter.unusedVariables false
set_option linter.unusedSimpArgs false
namespace Go.Proofs.Ytaddhiojahmbpaa
open Go.RowKit Go.Maps
attribute [local go_sem ↓] Go.wp_at_zero Go.wp_at_succ

theorem edge_wf {l h p : Int} (he : edgeB l h p = true) (hp : p ≤ 24) : (Lit.int .i64 l).wf = true ∧ (Lit.int .i64 h).wf = true := by
  have := edgeB_in he
  exact ⟨WalkArith.wf_i64 (by omega), WalkArith.wf_i64 (by omega)⟩

set_option maxRecDepth 100000 in
set_option maxHeartbeats 2000000 in
theorem implChordal_any (p : Int) (ao : Option Addr) (n cap : Nat) (L H : Nat → Int) (hn : n ≤ 1048576) (hcap : n ≤ cap) (w : World) (hr : ERow w ao n L H) :
    Calls Try.prog 38 #[.slice ao n cap, .int .i64 p] w fun e w' => BAns e (Chd p n L H) ∧ Below w.heap.size w w' := by
  rcases Bool.eq_false_or_eq_true (edgesB p n L H) with h | h
  rotate_left
  · have HC : Hid (¬ Chd p n L H) := fun hc => by rw [hc.1] at h; cases h
    go_enter Try.func38, Try.ntmps38
    go_wp2_with (go_at_call 79; refine (edgesOk_any p ao n cap L H hn _ hr).mono ?_; rintro e w1 ⟨rfl, hb1⟩)
    go_ret
    exact ⟨bans_no HC.out, hb1⟩
  have HC : Hid (Chd p n L H ↔ ChdTo n L H n) := ⟨fun x => x.2, fun x => ⟨h, x⟩⟩
  have hwf : EWf L H n := fun k hk => by
    simp [edgesB, inB] at h
    exact edge_wf (edB_at n h.2 k hk) (by omega)
  have HW : Hid (EWf L H n) := hwf
  clear hwf
  go_enter Try.func38, Try.ntmps38
  go_wp2_with fail
  refine (edgesOk_any p ao n cap L H hn _ hr).mono ?_
  rintro e w1 ⟨rfl, hb1⟩
  go_wp2_with fail
  refine (edgeNumbers_any ao n cap L H hn HW.out _ (hr.below hb1 (Nat.le_refl _))).mono ?_
  rintro e w2 ⟨rfl, hm2, hb2⟩
  have hA2 := below_next hb1 (Nat.le_refl _) hb2
  have hs1 := hb1.size
  clear hb1 hb2
  go_wp2
  go_loopw [20] (fun x wr => ∃ i : Nat, i ≤ n ∧ x = .int .i64 i ∧ ChdTo n L H i ∧ wr.ownsMap Try.prog 58 (plainElem Try.prog 3) w1.heap.size n (enums L H n) ∧ Below w.heap.size w wr) (fun x _ => n - (intOf x).toNat)
  case atStart => exact ⟨0, Nat.zero_le _, rfl, fun i hi => by omega, hm2, hA2⟩
  case round =>
    clear hm2 hA2
    obtain ⟨i, hi, rfl, hto, hm, hbel⟩ := hrel
    have HTO : Hid (ChdTo n L H i) := hto
    clear hto
    by_cases hlt : i < n
    rotate_left
    · have hin : i = n := by omega
      subst hin
      go_wp2
      go_ret
      exact ⟨bans_yes (HC.out.2 HTO.out), hbel⟩
    obtain ⟨b, o, hao, c0, c1⟩ := (hr.below hbel (Nat.le_refl _)) i hlt
    subst hao
    have hi1 : (0 : Int) ≤ (i : Int) := by omega
    have hi2 : (i : Int) < (n : Int) := by omega
    have hm' := hm.alloc (.cells #[.int .i64 (L i), .int .i64 (H i)] 58)
    have hb' := hbel.alloc (o := .cells #[.int .i64 (L i), .int .i64 (H i)] 58) hbel.size
    by_cases hc : cap = i + 1
    · have hin : n = i + 1 := by omega
      have HN : Hid (ChdTo n L H (i + 1)) := HTO.out.next (ChdAt.start n L H i) (Or.inl hin.symm) (by omega)
      subst hc
      have hz : n - (i + 1) = 0 := by omega
      go_wp2
      all_goals try omega
      go_loopw [30] (fun x wq => x = .int .i64 0 ∧ wq.ownsMap Try.prog 58 (plainElem Try.prog 3) w1.heap.size n (enums L H n) ∧ Below w.heap.size w wq) (fun x _ => 0)
      case atStart => exact ⟨rfl, hm', hb'⟩
      case round =>
        clear hm' hb' hm hbel
        obtain ⟨rfl, hm, hbel⟩ := hrel
        go_wp2
        go_roundw
        case rel => exact ⟨i + 1, by omega, by go_num, HN.out, hm, hbel⟩
        case measure => simp [intOf]; omega
    obtain ⟨W0, hW0⟩ : ∃ W0, W0 = wr := ⟨_, rfl⟩
    subst hW0
    have hc2 : i + 1 < cap := by omega
    have hfl : W0.heap.size < (W0.alloc (.cells #[.int .i64 (L i), .int .i64 (H i)] 58)).heap.size := by simp
    have hbw := hbel.size
    have f0 : (W0.alloc (.cells #[.int .i64 (L i), .int .i64 (H i)] 58)).cell? ⟨W0.heap.size, 0, none⟩ = some (.int .i64 (L i)) := by simp [go_sem]
    have f1 : (W0.alloc (.cells #[.int .i64 (L i), .int .i64 (H i)] 58)).cell? ⟨W0.heap.size, 1, none⟩ = some (.int .i64 (H i)) := by simp [go_sem]
    go_wp2
    go_loopw [30] (fun x wq => ∃ k : Nat, i + 1 + k ≤ n ∧ x = .int .i64 k ∧ ChdAt n L H i (i + 1 + k) ∧ wq.ownsMap Try.prog 58 (plainElem Try.prog 3) w1.heap.size n (enums L H n) ∧ wq.cell? ⟨W0.heap.size, 0, none⟩ = some (.int .i64 (L i)) ∧ wq.cell? ⟨W0.heap.size, 1, none⟩ = some (.int .i64 (H i)) ∧ Below w.heap.size w wq) (fun x _ => n - (intOf x).toNat)
    case atStart => exact ⟨0, by omega, rfl, ChdAt.start n L H i, hm', f0, f1, hb'⟩
    case round =>
      clear hm' hb' hm hbel f0 f1 hfl hbw
      obtain ⟨k, hk, rfl, hat, hm, f0, f1, hbel⟩ := hrel
      have HAT : Hid (ChdAt n L H i (i + 1 + k)) := hat
      clear hat c0 c1
      have hml := hm.lt
      have hfl := lt_of_cell f0
      by_cases hkn : i + 1 + k < n
      rotate_left
      · have e : i + 1 + k = n := by omega
        have HN : Hid (ChdTo n L H (i + 1)) := HTO.out.next HAT.out (Or.inl e) (by omega)
        have hd : ¬ (k : Int) < ((n - (i + 1) : Nat) : Int) := by omega
        go_wp2
        go_roundw
        case rel => exact ⟨i + 1, by omega, by go_num, HN.out, hm, hbel⟩
        case measure => simp [intOf]; omega
      obtain ⟨b', o', hao', d0, d1⟩ := (hr.below hbel (Nat.le_refl _)) (i + 1 + k) hkn
      simp only [Option.some.injEq, Addr.mk.injEq, and_true] at hao'
      obtain ⟨rfl, rfl⟩ := hao'
      have e0 : o + (i + 1 + k) * 2 = o + (i + 1) * 2 + k * 2 := by omega
      rw [e0] at d0 d1
      clear e0
      have hd : (k : Int) < ((n - (i + 1) : Nat) : Int) := by omega
      have hk0 : (0 : Int) ≤ (k : Int) := by omega
      have hm' := hm.alloc (.cells #[.int .i64 (L (i + 1 + k)), .int .i64 (H (i + 1 + k))] 58)
      have hb' := hbel.alloc (o := .cells #[.int .i64 (L (i + 1 + k)), .int .i64 (H (i + 1 + k))] 58) hbel.size
      have hB := Below.refl wr.heap.size wr
      have HB := hB.alloc (o := .cells #[.int .i64 (L (i + 1 + k)), .int .i64 (H (i + 1 + k))] 58) (Nat.le_refl _)
      have f0' := keep_cell HB (Nat.le_refl _) f0
      have f1' := keep_cell HB (Nat.le_refl _) f1
      clear hB HB
      by_cases hL : L (i + 1 + k) = L i
      rotate_left
      · have HN : Hid (ChdTo n L H (i + 1)) := HTO.out.next HAT.out (Or.inr hL) (by omega)
        go_wp2
        go_roundw
        case rel => exact ⟨i + 1, by omega, by go_num, HN.out, hm', hb'⟩
        case measure => simp [intOf]; omega
      have HL : Hid (L (i + 1 + k) = L i) := hL
      rw [hL] at d0 hm' hb' f0' f1'
      clear hL hm
      have hkey := key_edge (H i) (H (i + 1 + k)) (HW.out i hlt).2 (HW.out (i + 1 + k) hkn).2
      have hlook := enums_look L H (H i) (H (i + 1 + k)) (HW.out i hlt).2 (HW.out (i + 1 + k) hkn).2 n HW.out
      rcases hlook with ⟨hl1, hl2⟩ | ⟨q, hq, hq1, hq2, hl1, hl3⟩
      · have HS : Hid (¬ Hs n L H (H i) (H (i + 1 + k))) := fun ⟨x, h1, h2⟩ => hl2 x h1 h2
        clear hl2
        go_wp2_with (at_lookup; refine wpList_lookup_own_ok_int _ rfl _ _ 100 rfl 58 3 .i64 Try.keyLawE Try.underlying100 Try.underlying3 (Try.mapZeroE _) _ n _ rfl hm' _ _ rfl hkey ?_; intro cc hatk hwc)
        go_ret
        exact ⟨bans_no (fun hc => HAT.out.bad HL.out (by omega) hkn HS.out (HC.out.1 hc)), hb'⟩
      · have HS : Hid (Hs n L H (H i) (H (i + 1 + k))) := ⟨q, hq, hq1, hq2⟩
        clear hl3 hq1 hq2
        go_wp2_with (at_lookup; refine wpList_lookup_own_ok_int _ rfl _ _ 100 rfl 58 3 .i64 Try.keyLawE Try.underlying100 Try.underlying3 (Try.mapZeroE _) _ n _ rfl hm' _ _ rfl hkey ?_; intro cc hatk hwc)
        go_roundw
        case rel => exact ⟨k + 1, by omega, by go_num, HAT.out.next HL.out HS.out, hm', f0', f1', hb'⟩
        case measure => simp [intOf]; omega

end Go.Proofs.Ytaddhiojahmbpaa
