/-
  The program's ClusterOk, by a contract of NodeOk.
-/
import Derived.Test.YticckgmkhgnmfaaDoorCluP
set_option linter.unusedVariables false
set_option linter.unusedSimpArgs false
namespace Go.Proofs.YticckgmkhgnmfaaDoor
open Go Go.RowKit
attribute [local go_sem ↓] Go.wp_at_zero Go.wp_at_succ

set_option maxRecDepth 100000 in
set_option maxHeartbeats 8000000 in
theorem clusterOk_gen (B : Nq → Bool) (l : List Nq) (ao : Option Addr) (cap : Nat) (no : Option Addr) (nn nc : Nat) (hl : l.length ≤ 1048576) (hnn : nn ≤ 1048576) (w : World) (hr : LRow w 51 ao (clc l))
    (HN : ∀ W q, q ∈ l → RB w W → Calls Tryd.prog 47 #[ndV q.n q.s] W fun e w' => e = .returned (.bool (B q)) ∧ RB W w') :
    Calls Tryd.prog 24 #[.agg #[.slice ao l.length cap, .slice no nn nc]] w fun e w' => e = .returned (.bool (cluB B l nn)) ∧ RB w w' := by
  obtain ⟨R, hR⟩ : ∃ R, R = cluB B l nn := ⟨_, rfl⟩
  rw [← hR]
  have HR : Hid (R = cluB B l nn) := hR
  have HNN : Hid (∀ W q, q ∈ l → RB w W → Calls Tryd.prog 47 #[ndV q.n q.s] W fun e w' => e = .returned (.bool (B q)) ∧ RB W w') := HN
  clear hR HN
  have hb := RB.alloc w (.cells #[.slice ao l.length cap, .slice no nn nc] 25)
  have vA : VHas (w.alloc (.cells #[.slice ao l.length cap, .slice no nn nc] 25)) w.heap.size 25 2 (lf [.slice ao l.length cap, .slice no nn nc]) := box_new w [.slice ao l.length cap, .slice no nn nc] 25
  have y0 := vA.cell (j := 0) (by omega)
  have y1 := vA.cell (j := 1) (by omega)
  simp [lf] at y0 y1
  by_cases h1 : l.length < 1
  · have e0 : R = false := by
      rw [HR.out]
      simp only [cluB, Bool.and_eq_false_iff]
      left
      simp
      omega
    subst e0
    have h1' : (l.length : Int) < 1 := by omega
    go_enter Tryd.func24, Tryd.ntmps24
    go_wp2
    go_ret
    exact ⟨rfl, hb⟩
  have h1' : ¬ (l.length : Int) < 1 := by omega
  by_cases h5 : 5 < l.length
  · have e0 : R = false := by
      rw [HR.out]
      simp only [cluB, Bool.and_eq_false_iff]
      left
      simp
      omega
    subst e0
    have h5' : 5 < (l.length : Int) := by omega
    go_enter Tryd.func24, Tryd.ntmps24
    go_wp2
    go_ret
    exact ⟨rfl, hb⟩
  have h5' : ¬ 5 < (l.length : Int) := by omega
  by_cases h2 : 200 < nn
  · have e0 : R = false := by
      rw [HR.out]
      simp only [cluB, Bool.and_eq_false_iff]
      left
      simp
      omega
    subst e0
    have h2' : 200 < (nn : Int) := by omega
    go_enter Tryd.func24, Tryd.ntmps24
    go_wp2
    go_ret
    exact ⟨rfl, hb⟩
  have h2' : ¬ 200 < (nn : Int) := by omega
  have e0 : R = okFrom B l.length 0 l := by
    rw [HR.out]
    simp only [cluB]
    rw [show decide (1 ≤ l.length ∧ l.length ≤ 5 ∧ nn ≤ 200) = true by simp; omega, Bool.true_and]
  obtain ⟨b, o, e, _⟩ := hr (fun z => by have := clc_len l; rw [z] at this; simp at this; omega)
  subst e
  have hr2 := hr.next hb
  go_enter Tryd.func24, Tryd.ntmps24
  go_wp2
  generalize (w.alloc (.cells #[.slice (some ⟨b, o, none⟩) l.length cap, .slice no nn nc] 25)) = W at hb hr2 ⊢
  clear vA y0 y1 HR
  have HR : Hid (R = okFrom B l.length 0 l) := e0
  clear e0 hr
  go_loopw [4, 5, 24] (fun x4 x5 x24 wr => ∃ k : Nat, k ≤ l.length ∧ x24 = .int .i64 (k : Int) ∧ Hid (R = okFrom B l.length k (l.drop k)) ∧ RB W wr) (fun _ _ x _ => l.length - (intOf x).toNat)
  case atStart => exact ⟨0, Nat.zero_le _, rfl, HR, RB.refl _⟩
  case round =>
    obtain ⟨k, hk, rfl, HK, hRW⟩ := hrel
    by_cases hlt : k < l.length
    rotate_left
    · obtain rfl : k = l.length := by omega
      have e0 : R = true := by rw [HK.out, List.drop_length]; rfl
      subst e0
      go_wp2
      go_ret
      exact ⟨rfl, RB.trans _ _ _ hb hRW⟩
    obtain ⟨q, hq⟩ : ∃ q, l[k]? = some q := ⟨l[k], by simp [hlt]⟩
    have hdr : l.drop k = q :: l.drop (k + 1) := by
      rw [List.drop_eq_getElem_cons hlt]
      congr 1
      rw [List.getElem?_eq_getElem hlt] at hq
      exact Option.some.inj hq
    have hqm : q ∈ l := List.mem_of_getElem? hq
    have HO : Hid (R = (decide (q.n.id = (k : Int)) && (decide (q.n.peers = (l.length : Int)) && (B q && okFrom B l.length ((k : Int) + 1) (l.drop (k + 1)))))) := by
      show _ = _
      rw [HK.out, hdr]
      rfl
    have hr3 := hr2.next hRW
    have d0 := clc_row hr3 hq 0 (by omega)
    have d1 := clc_row hr3 hq 1 (by omega)
    have d2 := clc_row hr3 hq 2 (by omega)
    have d3 := clc_row hr3 hq 3 (by omega)
    have d4 := clc_row hr3 hq 4 (by omega)
    have d5 := clc_row hr3 hq 5 (by omega)
    have d6 := clc_row hr3 hq 6 (by omega)
    have d7 := clc_row hr3 hq 7 (by omega)
    have d8 := clc_row hr3 hq 8 (by omega)
    have d9 := clc_row hr3 hq 9 (by omega)
    simp [lf] at d0 d1 d2 d3 d4 d5 d6 d7 d8 d9
    have hlt' : (k : Int) < (l.length : Int) := by omega
    have hw1 : IntKind.i64.wrap ((k : Int) + 1) = (k : Int) + 1 := by rw [IntKind.wrap_i64]; omega
    clear hr3 hdr HK hq
    have hal := RB.alloc wr (.cells (ndL q.n q.s).toArray 51)
    by_cases hid : q.n.id = (k : Int)
    rotate_left
    · have e0 : R = false := by rw [HO.out]; simp [hid]
      subst e0
      have hid' : (q.n.id != (k : Int)) = true := by simp [hid]
      clear hid HO
      go_wp2
      go_ret
      exact ⟨rfl, RB.trans _ _ _ hb (RB.trans _ _ _ hRW hal)⟩
    have hid' : (q.n.id != (k : Int)) = false := by simp [hid]
    by_cases hpe : q.n.peers = (l.length : Int)
    rotate_left
    · have e0 : R = false := by rw [HO.out]; simp [hpe]
      subst e0
      have hpe' : (q.n.peers != (l.length : Int)) = true := by simp [hpe]
      clear hid HO hpe
      go_wp2
      go_ret
      exact ⟨rfl, RB.trans _ _ _ hb (RB.trans _ _ _ hRW hal)⟩
    have hpe' : (q.n.peers != (l.length : Int)) = false := by simp [hpe]
    have HO2 : Hid (R = (B q && okFrom B l.length ((k : Int) + 1) (l.drop (k + 1)))) := by
      show _ = _
      rw [HO.out]
      simp [hid, hpe]
    clear hid hpe HO
    go_wp2_with fail
    refine (HNN.out _ q hqm (RB.trans _ _ _ hb (RB.trans _ _ _ hRW hal))).mono ?_
    rintro e w1 ⟨rfl, hb1⟩
    clear d0 d1 d2 d3 d4 d5 d6 d7 d8 d9 hid' hpe'
    rcases Bool.eq_false_or_eq_true (B q) with hB | hB
    rotate_left
    · have e0 : R = false := by rw [HO2.out]; simp [hB]
      subst e0
      rw [hB]
      go_wp2
      go_ret
      exact ⟨rfl, RB.trans _ _ _ hb (RB.trans _ _ _ hRW (RB.trans _ _ _ hal hb1))⟩
    rw [hB]
    have HO3 : Hid (R = okFrom B l.length ((k : Int) + 1) (l.drop (k + 1))) := by
      show _ = _
      rw [HO2.out]
      simp [hB]
    clear HO2 hB
    go_wp2
    go_roundw
    case rel => exact ⟨k + 1, by omega, by go_num, HO3, RB.trans _ _ _ hRW (RB.trans _ _ _ hal hb1)⟩
    case measure => simp [intOf]; omega

end Go.Proofs.YticckgmkhgnmfaaDoor
