/-
  The fill at every map and every list: the document's answer, in new memory.
-/
import Derived.Test.YtaddhiojahmbpabFillS
import Derived.Test.YtaddhiojahmbpabOrdSp
set_option linter.unusedVariables false
set_option linter.unusedSimpArgs false
namespace Go.Proofs.Ytaddhiojahmbpab
open Go.RowKit
attribute [local go_sem ↓] Go.wp_at_zero Go.wp_at_succ

def lstF (p : Int) (n : Nat) (F T : Nat → Int) (P : Nat → Int) : List Pr := allS (nbA F T n) P p.toNat p.toNat
def lenF (p : Int) (n : Nat) (F T G : Nat → Int) (m : Nat) (P : Nat → Int) : Nat := if ordB p n F T G m P then (lstF p n F T P).length else 0
theorem ordB_parts {p : Int} {n : Nat} {F T G : Nat → Int} {m : Nat} {P : Nat → Int} (h : ordB p n F T G m P = true) : (m : Int) = p ∧ graphB p n F T G = true ∧ (1 ≤ m ∧ m ≤ 24) ∧ eachB m P m = true := by
  simp [ordB, okR] at h
  exact ⟨h.2.1, h.1, ⟨h.2.2.1, h.2.2.2.1⟩, h.2.2.2.2⟩
theorem lenF_le (p : Int) (n : Nat) (F T G : Nat → Int) (m : Nat) (P : Nat → Int) : lenF p n F T G m P ≤ 1000 := by
  unfold lenF
  split
  · next h =>
    obtain ⟨h1, _, h2, _⟩ := ordB_parts h
    have hp : p.toNat ≤ 24 := by omega
    have := allS_len (B := nbA F T n) (P := P) hp p.toNat
    unfold lstF
    omega
  · omega

set_option maxHeartbeats 1000000 in
theorem specFill_any (p : Int) (ao : Option Addr) (n cap : Nat) (F T G : Nat → Int) (po : Option Addr) (m pcap : Nat) (P : Nat → Int) (hn : n ≤ 1048576) (hm : m ≤ 1048576) (w : World) (hr : Row w ao n F T G) (hq : IRow w po m P) :
    Calls Try.prog 10 #[.agg #[.int .i64 p, .slice ao n cap], .slice po m pcap] w fun e w' => EAns w w' e (lenF p n F T G m P) (Lf (lstF p n F T P)) (Hf (lstF p n F T P)) := by
  rcases Bool.eq_false_or_eq_true (ordB p n F T G m P) with h | h
  rotate_left
  · have hL : lenF p n F T G m P = 0 := by simp [lenF, h]
    rw [hL]
    go_enter Try.func10, Try.ntmps10
    go_wp2_with (go_at_call 11; refine (specOrderOk_any p ao n cap F T G po m pcap P hn hm _ (hr.alloc _) (hq.alloc _)).mono ?_; rintro e w1 ⟨rfl, hb1⟩)
    go_ret
    exact ⟨_, _, rfl, fun h => by omega, unbox (hb1.alloc (by have := hb1.size; omega) _) (by simp)⟩
  obtain ⟨hmp, hg, ⟨hm1, hm2⟩, he⟩ := ordB_parts h
  subst hmp
  have hL : lenF m n F T G m P = (allS (nbA F T n) P m m).length := by simp [lenF, h, lstF]
  have hS : lstF m n F T P = allS (nbA F T n) P m m := by simp [lstF]
  rw [hL, hS]
  obtain ⟨_, hn1, hF, hT, hFT⟩ := ok_arcs hg
  have HA : Hid ((∀ k, k < n → 0 ≤ F k ∧ F k < (m : Int)) ∧ (∀ k, k < n → 0 ≤ T k ∧ T k < (m : Int)) ∧ (∀ k, k < n → F k ≠ T k) ∧ eachB m P m = true) := ⟨hF, hT, hFT, he⟩
  clear hL hS hF hT hFT he
  go_enter Try.func10, Try.ntmps10
  go_wp2_with (first | (go_at_call 11; refine (specOrderOk_any m ao n cap F T G po m pcap P hn hm _ (hr.alloc _) (hq.alloc _)).mono ?_; rintro e w1 ⟨rfl, hb1⟩; obtain ⟨hc, hf⟩ := bcell hb1) | (go_at_call 21; refine (l4Fill_any m ao n cap F T G po pcap P hm1 hm2 hn1 HA.out.1 HA.out.2.1 HA.out.2.2.1 HA.out.2.2.2 _ ((hr.alloc _).below hb1 (Nat.le_refl _)) ((hq.alloc _).below hb1 (Nat.le_refl _))).mono ?_; rintro e w2 ⟨g, c, rfl, hg2, hE, hb2⟩))
  go_ret
  exact ⟨_, _, rfl, fun _ => ⟨g, rfl, by have := hb1.size; simp at this; omega, hE.has⟩, unbox (below_next hb1 (Nat.le_refl _) hb2) (by simp)⟩

set_option maxHeartbeats 1000000 in
theorem specFill_own (p : Int) (ao : Option Addr) (n cap : Nat) (F T G : Nat → Int) (po : Option Addr) (m pcap : Nat) (P : Nat → Int) (hn : n ≤ 1048576) (hm : m ≤ 1048576) (w : World) (hr : Row w ao n F T G) (hq : IRow w po m P) :
    Calls Try.prog 10 #[.agg #[.int .i64 p, .slice ao n cap], .slice po m pcap] w fun e w' => ∃ g c l, e = .returned (.slice (some ⟨g, 0, none⟩) l.length c) ∧ l = (if ordB p n F T G m P then lstF p n F T P else []) ∧ EOwn w' w.heap.size g c l ∧ Below w.heap.size w w' := by
  rcases Bool.eq_false_or_eq_true (ordB p n F T G m P) with h | h
  rotate_left
  · rw [h]
    go_enter Try.func10, Try.ntmps10
    go_wp2_with (go_at_call 11; refine (specOrderOk_any p ao n cap F T G po m pcap P hn hm _ (hr.alloc _) (hq.alloc _)).mono ?_; rintro e w1 ⟨rfl, hb1⟩)
    go_ret
    have hz := hb1.size
    simp at hz
    exact ⟨w1.heap.size, 0, [], rfl, rfl, EOwn.empty w1 (by omega), unbox (hb1.alloc (by have := hb1.size; omega) _) (by simp)⟩
  obtain ⟨hmp, hg, ⟨hm1, hm2⟩, he⟩ := ordB_parts h
  subst hmp
  have hS : lstF m n F T P = allS (nbA F T n) P m m := by simp [lstF]
  rw [h, hS]
  obtain ⟨_, hn1, hF, hT, hFT⟩ := ok_arcs hg
  have HA : Hid ((∀ k, k < n → 0 ≤ F k ∧ F k < (m : Int)) ∧ (∀ k, k < n → 0 ≤ T k ∧ T k < (m : Int)) ∧ (∀ k, k < n → F k ≠ T k) ∧ eachB m P m = true) := ⟨hF, hT, hFT, he⟩
  clear hS hF hT hFT he
  go_enter Try.func10, Try.ntmps10
  go_wp2_with (first | (go_at_call 11; refine (specOrderOk_any m ao n cap F T G po m pcap P hn hm _ (hr.alloc _) (hq.alloc _)).mono ?_; rintro e w1 ⟨rfl, hb1⟩; obtain ⟨hc, hf⟩ := bcell hb1) | (go_at_call 21; refine (l4Fill_any m ao n cap F T G po pcap P hm1 hm2 hn1 HA.out.1 HA.out.2.1 HA.out.2.2.1 HA.out.2.2.2 _ ((hr.alloc _).below hb1 (Nat.le_refl _)) ((hq.alloc _).below hb1 (Nat.le_refl _))).mono ?_; rintro e w2 ⟨g, c, rfl, hg2, hE, hb2⟩))
  go_ret
  exact ⟨g, c, _, rfl, rfl, hE.from (by have := hb1.size; simp at this; omega), unbox (below_next hb1 (Nat.le_refl _) hb2) (by simp)⟩

end Go.Proofs.Ytaddhiojahmbpab
