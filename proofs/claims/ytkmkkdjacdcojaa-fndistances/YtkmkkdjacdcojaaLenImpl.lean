/-
  The program's Length answers what the document's does.
-/
import Derived.Test.YtkmkkdjacdcojaaLen
set_option linter.unusedVariables false
set_option linter.unusedSimpArgs false
namespace Go.Proofs.Ytkmkkdjacdcojaa
open Go.RowKit Go.Maps
attribute [local go_sem ↓] Go.wp_at_zero Go.wp_at_succ

def pathB (p : Int) (m : Nat) (P : Nat → Int) : Bool := decide (1 ≤ m) && (decide (m ≤ 200) && allIn p P m)

set_option maxHeartbeats 800000 in
theorem pathOk_any (p : Int) (po : Option Addr) (m pcap : Nat) (P : Nat → Int) (hm : m ≤ 1048576) (w : World) (hp : IRow w po m P) :
    Calls Try.prog 54 #[.slice po m pcap, .int .i64 p] w fun e w' => e = .returned (.bool (pathB p m P)) ∧ w' = w := by
  by_cases h1 : 1 ≤ m
  rotate_left
  · go_enter Try.func54, Try.ntmps54
    go_wp2
    go_ret
    exact ⟨ret_bool (by simp [pathB]; omega), rfl⟩
  by_cases h2 : m ≤ 200
  rotate_left
  · go_enter Try.func54, Try.ntmps54
    go_wp2
    go_ret
    exact ⟨ret_bool (by simp [pathB]; omega), rfl⟩
  go_enter Try.func54, Try.ntmps54
  go_wp2
  go_loop [17] (fun i => ∃ k : Nat, k ≤ m ∧ i = .int .i64 k ∧ Hid (allIn p P k = true)) (fun i => m - (intOf i).toNat)
  case atStart => exact ⟨0, Nat.zero_le _, rfl, rfl⟩
  case round =>
    obtain ⟨k, hk, rfl, hall⟩ := hrel
    by_cases hlt : k < m
    rotate_left
    · have hkn : k = m := by omega
      subst hkn
      go_wp2
      go_ret
      exact ⟨ret_bool (by simp [pathB, h1, h2, hall.out]), rfl⟩
    obtain ⟨b, o, hao, c0⟩ := hp k hlt
    subst hao
    rcases Bool.eq_false_or_eq_true (inB (P k) 0 (p - 1)) with ha | ha
    · go_wp2_with (go_at_call 48; refine (placeOk_any _ _ _).mono ?_; rintro e w1 ⟨rfl, rfl⟩)
      go_round
      case rel => exact ⟨k + 1, by omega, by go_num, by show allIn p P (k + 1) = true; simp [allIn, hall.out, ha]⟩
      case measure => simp [intOf]; omega
    · go_wp2_with (go_at_call 48; refine (placeOk_any _ _ _).mono ?_; rintro e w1 ⟨rfl, rfl⟩)
      go_ret
      exact ⟨ret_bool (by simp [pathB, allIn_no ha m hlt]), rfl⟩

set_option maxHeartbeats 1600000 in
theorem implLength_any (p : Int) (ao : Option Addr) (n cap : Nat) (F T G : Nat → Int) (po : Option Addr) (m pcap : Nat) (P : Nat → Int) (hn : n ≤ 1048576) (hm : m ≤ 1048576) (hcap : m ≤ pcap) (w : World) (hr : Row w ao n F T G) (hp : IRow w po m P) :
    Calls Try.prog 22 #[.agg #[.int .i64 p, .slice ao n cap], .slice po m pcap] w fun e w' => e = .returned (.int .i64 (lenOf p n F T G m P)) ∧ Below w.heap.size w w' := by
  rcases Bool.eq_false_or_eq_true (graphB p n F T G) with h | h
  rotate_left
  · go_enter Try.func22, Try.ntmps22
    go_wp2_with (first | (go_at_call 14; refine (implGraphOk_any p ao n cap F T G hn _ (hr.alloc _)).mono ?_; rintro e w1 ⟨rfl, hb1⟩))
    go_ret
    exact ⟨ret_i64 (lenOf_far (by simp [h])).symm, unbox hb1 (by simp)⟩
  rcases Bool.eq_false_or_eq_true (pathB p m P) with hpb | hpb
  rotate_left
  · go_enter Try.func22, Try.ntmps22
    go_wp2_with (first | (go_at_call 14; refine (implGraphOk_any p ao n cap F T G hn _ (hr.alloc _)).mono ?_; rintro e w1 ⟨rfl, hb1⟩; obtain ⟨hcc, hff⟩ := bcell hb1) | (go_at_call 54; refine (pathOk_any p po m pcap P hm _ ((hp.alloc _).below hb1 (Nat.le_refl _))).mono ?_; rintro e w2 ⟨rfl, rfl⟩))
    go_ret
    exact ⟨ret_i64 (lenOf_far (fun hh => by simp [pathB, hh.2.1, hh.2.2.1, hh.2.2.2] at hpb)).symm, unbox hb1 (by simp)⟩
  have hpb' : 1 ≤ m ∧ m ≤ 200 ∧ allIn p P m = true := by simpa [pathB] using hpb
  obtain ⟨h1, h2, hall0⟩ := hpb'
  have HALL : Hid (allIn p P m = true) := hall0
  clear hall0
  have harcs := (graphB_arcs h).2
  have hwf := wf_small (graphB_p h) harcs
  have hpp : 1 ≤ p ∧ p ≤ 24 := by simpa [inB] using graphB_p h
  obtain ⟨hp1, hp2⟩ := hpp
  have HA : Hid (arcsB p F T G n = true) := harcs
  have HGB : Hid (graphB p n F T G = true) := h
  clear harcs
  obtain ⟨pb, po', hpo, _⟩ := hp 0 (by omega)
  subst hpo
  have hm1 : (1 : Int) ≤ (m : Int) := by omega
  have hm2 : (m : Int) ≤ (pcap : Int) := by omega
  have hlen : lenOf p n F T G m P = ps n F T G P (m - 1) := by unfold lenOf; rw [if_pos ⟨HGB.out, h1, h2, HALL.out⟩]
  have HLEN : Hid (lenOf p n F T G m P = ps n F T G P (m - 1)) := hlen
  clear hlen
  by_cases hq1 : pcap = 1
  · have hmm : m = 1 := by omega
    subst hmm
    subst hq1
    go_enter Try.func22, Try.ntmps22
    go_wp2_with (first | (go_at_call 14; refine (implGraphOk_any p ao n cap F T G hn _ (hr.alloc _)).mono ?_; rintro e w1 ⟨rfl, hb1⟩; obtain ⟨hcc, hff⟩ := bcell hb1) | (go_at_call 54; refine (pathOk_any p _ _ _ P hm _ ((hp.alloc _).below hb1 (Nat.le_refl _))).mono ?_; rintro e wq ⟨rfl, hq⟩; have hq' := hq.symm; subst hq'; clear hq) | (go_at_call 35; refine (arcNumbers_any p ao n cap F T G hn hwf _ ((hr.alloc _).below hb1 (Nat.le_refl _))).mono ?_; rintro e w2 ⟨rfl, hown, hb2⟩))
    have hA := below_next (boxed hb1) (by simp) hb2
    clear hcc hff hb1 hb2
    go_loopw [6, 26] (fun q i wr => i = .int .i64 0 ∧ q = .int .i64 0 ∧ Below (w.heap.size + 1) (w.alloc (.cells #[.int .i64 p, .slice ao n cap] 26)) wr) (fun _ _ _ => 0)
    case atStart => exact ⟨rfl, rfl, hA⟩
    case round =>
      obtain ⟨rfl, rfl, hbel⟩ := hrel
      go_wp2
      go_ret
      exact ⟨ret_i64 HLEN.out.symm, unbox hbel (by omega)⟩
  have hq2 : ¬ pcap = 1 := hq1
  go_enter Try.func22, Try.ntmps22
  go_wp2_with (first | (go_at_call 14; refine (implGraphOk_any p ao n cap F T G hn _ (hr.alloc _)).mono ?_; rintro e w1 ⟨rfl, hb1⟩; obtain ⟨hcc, hff⟩ := bcell hb1) | (go_at_call 54; refine (pathOk_any p _ _ _ P hm _ ((hp.alloc _).below hb1 (Nat.le_refl _))).mono ?_; rintro e wq ⟨rfl, hq⟩; have hq' := hq.symm; subst hq'; clear hq) | (go_at_call 35; refine (arcNumbers_any p ao n cap F T G hn hwf _ ((hr.alloc _).below hb1 (Nat.le_refl _))).mono ?_; rintro e w2 ⟨rfl, hown, hb2⟩))
  have hA := below_next (boxed hb1) (by simp) hb2
  clear hcc hff hb1 hb2
  go_loopw [6, 26] (fun q i wr => ∃ k : Nat, k ≤ m - 1 ∧ i = .int .i64 k ∧ q = .int .i64 (ps n F T G P k) ∧ wr.ownsMap Try.prog 58 (plainElem Try.prog 3) (w1.heap.size + 1) n (nums F T n) ∧ Below (w.heap.size + 1) (w.alloc (.cells #[.int .i64 p, .slice ao n cap] 26)) wr) (fun _ i _ => (m - 1) - (intOf i).toNat)
  case atStart => exact ⟨0, Nat.zero_le _, rfl, rfl, hown, hA⟩
  case round =>
    obtain ⟨k, hk, rfl, rfl, hown, hbel⟩ := hrel
    obtain ⟨g0, g1, hsz⟩ := box2 hbel
    by_cases hlt : k < m - 1
    rotate_left
    · have hkn : k = m - 1 := by omega
      subst hkn
      go_wp2
      go_ret
      exact ⟨ret_i64 HLEN.out.symm, unbox hbel (by omega)⟩
    obtain ⟨pb1, po1, hpo1, c0⟩ := ((hp.alloc _).below hbel (by simp)) k (by omega)
    obtain ⟨pb2, po2, hpo2, c1⟩ := ((hp.alloc _).below hbel (by simp)) (k + 1) (by omega)
    simp only [Option.some.injEq, Addr.mk.injEq, and_true] at hpo1 hpo2
    obtain ⟨rfl, rfl⟩ := hpo1
    obtain ⟨rfl, rfl⟩ := hpo2
    have c1' : wr.cell? ⟨pb, po' + 1 + k, none⟩ = some (.int .i64 (P (k + 1))) := by rw [← c1]; congr 2; omega
    have hk1 : (k : Int) < (m : Int) := by omega
    have hi0 := allIn_each m HALL.out k (by omega)
    have hi1 := allIn_each m HALL.out (k + 1) (by omega)
    have ha : (Lit.int .i64 (P k)).wf = true := by simp [inB] at hi0; exact WalkArith.wf_i64 (by omega)
    have hc : (Lit.int .i64 (P (k + 1))).wf = true := by simp [inB] at hi1; exact WalkArith.wf_i64 (by omega)
    have hkey := key_ends (P k) (P (k + 1)) ha hc
    have hL := lastW_lo HA.out (P k) (P (k + 1)) n (Nat.le_refl _)
    have hS := ps_lo HA.out P k
    clear hi0 hi1
    rcases nums_look F T (P k) (P (k + 1)) ha hc n hwf with ⟨l1, l2⟩ | ⟨j, hj, l1, l2, l3, l4⟩
    · have L2 : Hid (∀ j, j < n → ¬ (F j = P k ∧ T j = P (k + 1))) := l2
      clear l2
      go_wp2_with (at_lookup; refine wpList_lookup_own_ok_int _ rfl _ _ 54 rfl 58 3 .i64 Try.keyLaw Try.underlying54 Try.underlying3 (Try.mapZero _) _ n _ rfl hown _ _ rfl hkey ?_; intro cc hat hwc)
      go_ret
      exact ⟨ret_i64 (by rw [HLEN.out, ps_far HA.out P (lastW_none n L2.out) (m - 1) hlt]), unbox hbel (by omega)⟩
    · have L4 : Hid ((nums F T n).atKey (kl (P k) (P (k + 1))) (.lit (.int .i64 0)) = .lit (.int .i64 (j : Int))) := l4
      have HE : Hid (lastW F T G (P k) (P (k + 1)) n = G j) := lastW_at n (fun j' hj' e1 e2 => unique HA.out hj' hj (e1.trans l1.symm) (e2.trans l2.symm)) hj l1 l2
      clear l1 l2 l4
      rw [HE.out] at hL
      obtain ⟨b, o, hao, d0, d1, d2⟩ := ((hr.alloc _).below hbel (by simp)) j hj
      subst hao
      go_wp2_with (first | (at_lookup; refine wpList_lookup_own_ok_int _ rfl _ _ 54 rfl 58 3 .i64 Try.keyLaw Try.underlying54 Try.underlying3 (Try.mapZero _) _ n _ rfl hown _ _ rfl hkey ?_; intro cc hat hwc; obtain rfl : cc = (j : Int) := by (rw [L4.out] at hat; simpa using hat.symm)) | (go_at_call 52; refine (plus_any _ _ hS.1 hS.2 hL.1 hL.2 _).mono ?_; rintro e w3 ⟨rfl, rfl⟩))
      go_roundw
      case rel => exact ⟨k + 1, by omega, by go_num, by show Value.int .i64 _ = Value.int .i64 (min 1000000000000 (ps n F T G P k + lastW F T G (P k) (P (k + 1)) n)); rw [HE.out], hown, hbel⟩
      case measure => simp [intOf]; omega

end Go.Proofs.Ytkmkkdjacdcojaa
