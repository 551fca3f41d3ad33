/-
  Length: the document's, held against one plain function of the arcs and the path.
-/
import Derived.Test.YtkmkkdjacdcojaaAdd
import Derived.Test.YtkmkkdjacdcojaaInts
set_option linter.unusedVariables false
set_option linter.unusedSimpArgs false
namespace Go.Proofs.Ytkmkkdjacdcojaa
open Go.RowKit Go.Maps
attribute [local go_sem ↓] Go.wp_at_zero Go.wp_at_succ

def allIn (p : Int) (P : Nat → Int) : Nat → Bool
  | 0 => true
  | k + 1 => allIn p P k && inB (P k) 0 (p - 1)
def ps (n : Nat) (F T G P : Nat → Int) : Nat → Int
  | 0 => 0
  | k + 1 => min 1000000000000 (ps n F T G P k + lastW F T G (P k) (P (k + 1)) n)
def lenOf (p : Int) (n : Nat) (F T G : Nat → Int) (m : Nat) (P : Nat → Int) : Int :=
  if graphB p n F T G = true ∧ 1 ≤ m ∧ m ≤ 200 ∧ allIn p P m = true then ps n F T G P (m - 1) else 1000000000000

theorem allIn_each {p : Int} {P : Nat → Int} : ∀ m, allIn p P m = true → ∀ k, k < m → inB (P k) 0 (p - 1) = true
  | 0, _, k, hk => by omega
  | m + 1, h, k, hk => by
    simp [allIn] at h
    by_cases e : k = m
    · subst e; exact h.2
    · exact allIn_each m h.1 k (by omega)
theorem allIn_no {p : Int} {P : Nat → Int} {k : Nat} (h : inB (P k) 0 (p - 1) = false) : ∀ m, k < m → allIn p P m = false
  | 0, hk => by omega
  | m + 1, hk => by
    by_cases e : k = m
    · subst e; simp [allIn, h]
    · simp [allIn, allIn_no h m (by omega)]
theorem lastW_lo {p : Int} {F T G : Nat → Int} {n : Nat} (h : arcsB p F T G n = true) (a b : Int) : ∀ m, m ≤ n → 0 ≤ lastW F T G a b m ∧ lastW F T G a b m ≤ 1000000000000
  | 0, _ => by simp [lastW]
  | m + 1, hm => by
    unfold lastW
    split
    · have := (arcsB_each n h m (by omega)).1
      simp [arcB, inB] at this
      omega
    · exact lastW_lo h a b m (by omega)
theorem ps_lo {p : Int} {F T G : Nat → Int} {n : Nat} (h : arcsB p F T G n = true) (P : Nat → Int) : ∀ k, 0 ≤ ps n F T G P k ∧ ps n F T G P k ≤ 1000000000000
  | 0 => by simp [ps]
  | k + 1 => by
    have h1 := ps_lo h P k
    have h2 := lastW_lo h (P k) (P (k + 1)) n (Nat.le_refl _)
    unfold ps
    omega
theorem ps_far {p : Int} {F T G : Nat → Int} {n : Nat} (h : arcsB p F T G n = true) (P : Nat → Int) {j : Nat} (hj : lastW F T G (P j) (P (j + 1)) n = 1000000000000) : ∀ k, j < k → ps n F T G P k = 1000000000000
  | 0, hk => by omega
  | k + 1, hk => by
    have h1 := ps_lo h P k
    have h2 := lastW_lo h (P k) (P (k + 1)) n (Nat.le_refl _)
    unfold ps
    by_cases e : j = k
    · subst e; omega
    · rw [ps_far h P hj k (by omega)]; omega
theorem lenOf_far {p : Int} {n : Nat} {F T G : Nat → Int} {m : Nat} {P : Nat → Int} (h : ¬ (graphB p n F T G = true ∧ 1 ≤ m ∧ m ≤ 200 ∧ allIn p P m = true)) : lenOf p n F T G m P = 1000000000000 := by unfold lenOf; rw [if_neg h]

set_option maxHeartbeats 1600000 in
theorem specLength_any (p : Int) (ao : Option Addr) (n cap : Nat) (F T G : Nat → Int) (po : Option Addr) (m pcap : Nat) (P : Nat → Int) (hn : n ≤ 1048576) (hm : m ≤ 1048576) (w : World) (hr : Row w ao n F T G) (hp : IRow w po m P) :
    Calls Try.prog 23 #[.agg #[.int .i64 p, .slice ao n cap], .slice po m pcap] w fun e w' => e = .returned (.int .i64 (lenOf p n F T G m P)) ∧ Below w.heap.size w w' := by
  rcases Bool.eq_false_or_eq_true (graphB p n F T G) with h | h
  rotate_left
  · go_enter Try.func23, Try.ntmps23
    go_wp2_with (go_at_call 38; refine (specGraphOk_any p ao n cap F T G hn _ (hr.alloc _)).mono ?_; rintro e w1 ⟨rfl, hb1⟩)
    go_ret
    exact ⟨ret_i64 (lenOf_far (by simp [h])).symm, unbox hb1 (by simp)⟩
  by_cases h1 : 1 ≤ m
  rotate_left
  · go_enter Try.func23, Try.ntmps23
    go_wp2_with (go_at_call 38; refine (specGraphOk_any p ao n cap F T G hn _ (hr.alloc _)).mono ?_; rintro e w1 ⟨rfl, hb1⟩)
    go_ret
    exact ⟨ret_i64 (lenOf_far (by omega)).symm, unbox hb1 (by simp)⟩
  by_cases h2 : m ≤ 200
  rotate_left
  · go_enter Try.func23, Try.ntmps23
    go_wp2_with (go_at_call 38; refine (specGraphOk_any p ao n cap F T G hn _ (hr.alloc _)).mono ?_; rintro e w1 ⟨rfl, hb1⟩)
    go_ret
    exact ⟨ret_i64 (lenOf_far (by omega)).symm, unbox hb1 (by simp)⟩
  have harcs := (graphB_arcs h).2
  have hpp : 1 ≤ p ∧ p ≤ 24 := by simpa [inB] using graphB_p h
  obtain ⟨hp1, hp2⟩ := hpp
  have HA : Hid (arcsB p F T G n = true) := harcs
  have HGB : Hid (graphB p n F T G = true) := h
  clear harcs
  go_enter Try.func23, Try.ntmps23
  go_wp2_with (go_at_call 38; refine (specGraphOk_any p ao n cap F T G hn _ (hr.alloc _)).mono ?_; rintro e w1 ⟨rfl, hb1⟩; obtain ⟨hc, hf⟩ := bcell hb1)
  have HB1 := boxed hb1
  clear hb1 hc hf
  go_loopw [5, 6] (fun q i wr => ∃ k : Nat, k ≤ m ∧ i = .int .i64 k ∧ q = .int .i64 (ps n F T G P (k - 1)) ∧ Hid (allIn p P k = true) ∧ Below (w.heap.size + 1) (w.alloc (.cells #[.int .i64 p, .slice ao n cap] 26)) wr) (fun _ i _ => m - (intOf i).toNat)
  case atStart => exact ⟨0, Nat.zero_le _, rfl, rfl, rfl, HB1⟩
  case round =>
    obtain ⟨k, hk, rfl, rfl, hall, hbel⟩ := hrel
    obtain ⟨g0, g1, hsz⟩ := box2 hbel
    by_cases hlt : k < m
    rotate_left
    · have hkn : k = m := by omega
      subst hkn
      go_wp2
      go_ret
      exact ⟨ret_i64 (by unfold lenOf; rw [if_pos ⟨HGB.out, h1, h2, hall.out⟩]), unbox hbel (by omega)⟩
    obtain ⟨pb, po', hpo, c0⟩ := ((hp.alloc _).below hbel (by simp)) k hlt
    subst hpo
    have hk1 : (0 : Int) ≤ (k : Int) := by omega
    have hk2 : (k : Int) < (m : Int) := by omega
    have hpw : IntKind.i64.wrap (p - 1) = p - 1 := by rw [IntKind.wrap_i64]; omega
    rcases Bool.eq_false_or_eq_true (inB (P k) 0 (p - 1)) with ha | ha
    rotate_left
    · go_wp2
      go_region_held3 (fun w' => w'.cell? ⟨pb, po' + k, none⟩ = some (.int .i64 (P k)) ∧ w'.cell? ⟨w.heap.size, 0, none⟩ = some (.int .i64 p))
        (first | (go_split_ands; refine ⟨?_, ?_⟩ <;> exact keep_cell ‹_› (Nat.le_refl _) (by assumption)) | go_keep)
        (first | (go_at_call 40; refine (l1In_any _ _ _ _).mono ?_; rintro e w1 ⟨rfl, rfl⟩))
      go_wp2
      go_ret
      exact ⟨ret_i64 (lenOf_far (by simp [allIn_no ha m hlt])).symm, unbox (below_drewN hbel _) (by omega)⟩
    by_cases h0 : 0 < k
    rotate_left
    · go_wp2
      go_region_held3 (fun w' => w'.cell? ⟨pb, po' + k, none⟩ = some (.int .i64 (P k)) ∧ w'.cell? ⟨w.heap.size, 0, none⟩ = some (.int .i64 p))
        (first | (go_split_ands; refine ⟨?_, ?_⟩ <;> exact keep_cell ‹_› (Nat.le_refl _) (by assumption)) | go_keep)
        (first | (go_at_call 40; refine (l1In_any _ _ _ _).mono ?_; rintro e w1 ⟨rfl, rfl⟩))
      go_wp2
      go_roundw
      case rel => exact ⟨k + 1, by omega, by go_num, by obtain rfl : k = 0 := by omega
                                                        rfl, by show allIn p P (k + 1) = true; simp [allIn, hall.out, ha], below_drewN hbel _⟩
      case measure => simp [intOf]; omega
    obtain ⟨pb', po'', hpo', c1⟩ := ((hp.alloc _).below hbel (by simp)) (k - 1) (by omega)
    simp only [Option.some.injEq, Addr.mk.injEq, and_true] at hpo'
    obtain ⟨rfl, rfl⟩ := hpo'
    have hr1 := (hr.alloc _).below hbel (by simp)
    have hk5 : (1 : Int) ≤ (k : Int) := by omega
    have hk6 : (k : Int) ≤ (m : Int) := by omega
    have hk3 : IntKind.i64.wrap ((k : Int) - 1) = (k : Int) - 1 := by rw [IntKind.wrap_i64]; omega
    have hk4 : ((k : Int) - 1).toNat = k - 1 := by omega
    have hk7 : (0 : Int) ≤ (k : Int) - 1 := by omega
    have hk8 : (k : Int) - 1 < (m : Int) := by omega
    have hk9 : 1 ≤ k := by omega
    have hL := lastW_lo HA.out (P (k - 1)) (P k) n (Nat.le_refl _)
    have hS := ps_lo HA.out P (k - 1)
    have hE : Hid (ps n F T G P (k + 1 - 1) = min 1000000000000 (ps n F T G P (k - 1) + lastW F T G (P (k - 1)) (P k) n)) := by
      show ps n F T G P (k + 1 - 1) = _
      have e : k + 1 - 1 = (k - 1) + 1 := by omega
      rw [e]
      have e' : k - 1 + 1 = k := by omega
      show min 1000000000000 (ps n F T G P (k - 1) + lastW F T G (P (k - 1)) (P (k - 1 + 1)) n) = _
      rw [e']
    go_wp2
    go_region_held3 (fun w' => w'.cell? ⟨pb, po' + k, none⟩ = some (.int .i64 (P k)) ∧ w'.cell? ⟨w.heap.size, 0, none⟩ = some (.int .i64 p))
      (first | (go_split_ands; refine ⟨?_, ?_⟩ <;> exact keep_cell ‹_› (Nat.le_refl _) (by assumption)) | go_keep)
      (first | (go_at_call 40; refine (l1In_any _ _ _ _).mono ?_; rintro e w1 ⟨rfl, rfl⟩))
    go_wp2
    have hbel' := hbel.drew
    have c1' : wr.drew.cell? ⟨pb, po' + (k - 1), none⟩ = some (.int .i64 (P (k - 1))) := c1
    have c0' : wr.drew.cell? ⟨pb, po' + k, none⟩ = some (.int .i64 (P k)) := c0
    have g0' : wr.drew.cell? ⟨w.heap.size, 0, none⟩ = some (.int .i64 p) := g0
    have g1' : wr.drew.cell? ⟨w.heap.size, 1, none⟩ = some (.slice ao n cap) := g1
    have hr2 : Row wr.drew.drew ao n F T G := hr1.below (Below.refl _ wr).drew.drew (Nat.le_refl _)
    go_region_held3 (fun w' => w'.cell? ⟨pb, po' + k, none⟩ = some (.int .i64 (P k)) ∧ w'.cell? ⟨pb, po' + (k - 1), none⟩ = some (.int .i64 (P (k - 1))) ∧ w'.cell? ⟨w.heap.size, 0, none⟩ = some (.int .i64 p) ∧ w'.cell? ⟨w.heap.size, 1, none⟩ = some (.slice ao n cap))
      (first | (go_split_ands; refine ⟨?_, ?_, ?_, ?_⟩ <;> exact keep_cell ‹_› (Nat.le_refl _) (by assumption)) | go_keep)
      (first | (go_at_call 45; refine (l1Weight_any p ao n cap F T G _ _ hn HA.out _ hr2).mono ?_; rintro e w2 ⟨rfl, hb2⟩) | (go_at_call 55; refine (l1Add_any _ _ hS.1 hS.2 hL.1 hL.2 _).mono ?_; rintro e w3 ⟨rfl, rfl⟩))
    go_wp2
    go_roundw
    case rel => exact ⟨k + 1, by omega, by go_num, by rw [hE.out], by show allIn p P (k + 1) = true; simp [allIn, hall.out, ha], below_next hbel.drew.drew (by simp) hb2⟩
    case measure => simp [intOf]; omega

end Go.Proofs.Ytkmkkdjacdcojaa
