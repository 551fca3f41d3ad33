/-
  Merge, the program's, by its contract.
-/
import Derived.Test.YtcmeppjfjledfakDoorMrgG
import Derived.Test.YtcmeppjfjledfakDoorMrgP
import Derived.Test.YtcmeppjfjledfakDoorFitA
import Derived.Test.YtcmeppjfjledfakDoorErrAs
set_option linter.unusedVariables false
set_option linter.unusedSimpArgs false
namespace Go.Proofs.YtcmeppjfjledfakDoor
open Go.RowKit
attribute [local go_sem ↓] Go.wp_at_zero Go.wp_at_succ

theorem agF_fit {n : Nat} {T U : Nat → Int} {i k : Nat} : fitB n T ((i : Int) + 1 + (k : Int)) (U k) = agF n T U i k := by
  have e : ((i : Int) + 1 + (k : Int)).toNat = i + k + 1 := by omega
  unfold fitB agF lastT
  rw [e, if_neg (by omega)]
  simp only [Nat.add_sub_cancel]
  congr 1
  apply propext
  constructor
  · rintro ⟨_, h2, h3⟩; exact ⟨by omega, h3⟩
  · rintro ⟨h2, h3⟩; exact ⟨by omega, by omega, h3⟩

set_option maxHeartbeats 1000000 in
theorem faultOfEntries_any (ao : Option Addr) (n cap : Nat) (T : Nat → Int) (X : Nat → ByteArray) (i : Nat) (bo : Option Addr) (m bcap : Nat) (U : Nat → Int) (Y : Nat → ByteArray) (aE aO : Addr) (hn : n ≤ 200) (hc : n ≤ cap) (hi : i ≤ n) (hm : m ≤ 1048576) (w : World) (hr : NRow w ao n T X) (hs : NRow w bo m U Y)
    (hE : w.cell? ⟨0, 0, none⟩ = some (vE aE)) (hO : w.cell? ⟨3, 0, none⟩ = some (vE aO)) :
    Calls Tryd.prog 27 #[.slice ao n cap, .int .i64 i, .slice bo m bcap] w fun e w' => (agN n T i m U = m ∧ e = .returned .nilIface ∨ agN n T i m U < m ∧ ∃ a, e = .returned (mis ((i : Int) + 1 + (agN n T i m U : Int)) a)) ∧ Below w.heap.size w w' := by
  have HA : Hid (∀ k, k ≤ m → (∀ j, j < k → agF n T U i j = true) → (k < m → agF n T U i k = false) → agN n T i m U = k) := fun k h1 h2 h3 => ag_is h1 h2 h3
  generalize agN n T i m U = K at HA ⊢
  go_enter Tryd.func27, Tryd.ntmps27
  go_wp2
  go_loopw [12] (fun q wr => ∃ k : Nat, k ≤ m ∧ q = .int .i64 k ∧ (∀ j, j < k → agF n T U i j = true) ∧ Below w.heap.size w wr) (fun q _ => m - (intOf q).toNat)
  case atStart => exact ⟨0, Nat.zero_le _, rfl, fun j hj => by omega, Below.refl _ _⟩
  case round =>
    obtain ⟨k, hk, rfl, hat, hbel⟩ := hrel
    by_cases hlt : k < m
    rotate_left
    · have hkn : k = m := by omega
      subst hkn
      go_wp2
      go_ret
      exact ⟨Or.inl ⟨HA.out k (Nat.le_refl _) hat (fun h => by omega), rfl⟩, hbel⟩
    obtain ⟨b, o, hao, c0, c1⟩ := (hs.below hbel (Nat.le_refl _)) k hlt
    subst hao
    have hk1 : (0 : Int) ≤ (k : Int) := by omega
    have hk2 : (k : Int) < (m : Int) := by omega
    have w1 : IntKind.i64.wrap ((i : Int) + 1) = (i : Int) + 1 := by rw [IntKind.wrap_i64]; omega
    have w2 : IntKind.i64.wrap ((i : Int) + 1 + (k : Int)) = (i : Int) + 1 + (k : Int) := by rw [IntKind.wrap_i64]; omega
    have hF := fun W h1 h2 h3 => faultOfTerm_any ao n cap T X ((i : Int) + 1 + (k : Int)) (U k) aE aO (by omega) hc W h1 h2 h3
    rw [agF_fit] at hF
    have hbA : ∀ o, Below w.heap.size w (wr.alloc o) := fun o => hbel.alloc hbel.size o
    obtain ⟨g, hg⟩ : ∃ g, agF n T U i k = g := ⟨_, rfl⟩
    rw [hg] at hF
    cases g
    · simp only [Bool.false_eq_true, false_and, true_and, false_or] at hF
      go_wp2_with fail
      refine (hF _ (hr.below (hbA _) (Nat.le_refl _)) (keep_cell (hbA _) (Nat.le_refl _) hE) (keep_cell (hbA _) (Nat.le_refl _) hO)).mono ?_
      rintro e W1 ⟨⟨a, rfl⟩, hb1⟩
      go_wp2
      go_ret
      have hKk := HA.out k hk hat (fun _ => hg)
      exact ⟨Or.inr ⟨by omega, a, by rw [hKk]; rfl⟩, below_next (hbA _) (Nat.le_refl _) hb1⟩
    · simp only [true_and, Bool.true_eq_false, false_and, or_false] at hF
      go_wp2_with fail
      refine (hF _ (hr.below (hbA _) (Nat.le_refl _)) (keep_cell (hbA _) (Nat.le_refl _) hE) (keep_cell (hbA _) (Nat.le_refl _) hO)).mono ?_
      rintro e W1 ⟨rfl, hb1⟩
      go_wp2
      go_roundw
      case rel =>
        refine ⟨k + 1, by omega, by go_num, fun j hj => ?_, below_next (hbA _) (Nat.le_refl _) hb1⟩
        by_cases e : j = k
        · subst e; exact hg
        · exact hat j (by omega)
      case measure => simp [intOf]; omega

theorem NRow.drop {w : World} {b o n k : Nat} {T : Nat → Int} {X : Nat → ByteArray} (h : NRow w (some ⟨b, o, none⟩) n T X) (hk : k ≤ n) : NRow w (some ⟨b, o + k * 2, none⟩) (n - k) (fun j => T (k + j)) (fun j => X (k + j)) := fun j hj => by
  obtain ⟨b', o', e, c0, c1⟩ := h (k + j) (by omega)
  simp only [Option.some.injEq, Addr.mk.injEq, and_true] at e
  obtain ⟨rfl, rfl⟩ := e
  exact ⟨b, o + k * 2, rfl, by rw [show o + k * 2 + j * 2 = o + (k + j) * 2 by omega]; exact c0, by rw [show o + k * 2 + j * 2 + 1 = o + (k + j) * 2 + 1 by omega]; exact c1⟩

set_option maxHeartbeats 2000000 in
theorem mergedBehind_any (ao : Option Addr) (n cap : Nat) (T : Nat → Int) (X : Nat → ByteArray) (i : Nat) (bo : Option Addr) (m bcap : Nat) (U : Nat → Int) (Y : Nat → ByteArray) (aE aO : Addr) (hn : n ≤ 200) (hc : n ≤ cap) (hi : i ≤ n) (hm : m ≤ 1048576) (hbc : m ≤ bcap) (w : World) (hr : NRow w ao n T X) (hs : NRow w bo m U Y)
    (hE : w.cell? ⟨0, 0, none⟩ = some (vE aE)) (hO : w.cell? ⟨3, 0, none⟩ = some (vE aO)) (hT : w.cell? ⟨2, 0, none⟩ = some (.iface 68 (.agg #[hdl 39]))) :
    Calls Tryd.prog 18 #[.slice ao n cap, .int .i64 i, .slice bo m bcap] w fun e w' => ∃ ao' cap', e = .returned (.slice ao' (mN n i m (agN n T i m U)) cap') ∧ NOwn w w' ao' (mN n i m (agN n T i m U)) (mV m (agN n T i m U) i T U) (mV m (agN n T i m U) i X Y) ∧ Below w.heap.size w w' := by
  have hkn := agN_in (T := T) (m := m) (U := U) hi
  have hF := fun W h1 h2 h3 h4 => faultOfEntries_any ao n cap T X i bo m bcap U Y aE aO hn hc hi hm W h1 h2 h3 h4
  generalize agN n T i m U = K at hkn hF ⊢
  have hb0 : ∀ o, Below w.heap.size w (w.alloc o) := fun o => (Below.refl _ _).alloc (Nat.le_refl _) o
  go_enter Tryd.func18, Tryd.ntmps18
  go_wp2_with fail
  refine (hF _ (hr.below (hb0 _) (Nat.le_refl _)) (hs.below (hb0 _) (Nat.le_refl _)) (keep_cell (hb0 _) (Nat.le_refl _) hE) (keep_cell (hb0 _) (Nat.le_refl _) hO)).mono ?_
  rintro e w1 ⟨hh, hb1⟩
  have hA1 := below_next (hb0 _) (Nat.le_refl _) hb1
  have hbx : w1.heap[w.heap.size]? = some (.cells #[.int .i64 0, .nilIface] 49 (0, 0)) := by rw [hb1.block _ (by simp)]; exact Go.Deep.blk_alloc_new _ _
  clear hb1
  rcases hh with ⟨hK, rfl⟩ | ⟨hK, a, rfl⟩
  · go_wp2_with fail
    refine (as_nil _ _).mono ?_
    rintro e w2 ⟨rfl, hq⟩
    have hq' := hq.symm
    subst hq'
    clear hq
    go_wp2_with fail
    refine (cloneN_any ao n cap T X (by omega) _ (hr.below hA1 (Nat.le_refl _))).mono ?_
    rintro e w3 ⟨ao', cap', rfl, hO3, hb3⟩
    go_wp2
    go_ret
    rw [mN_no (by omega), mV_no (by omega), mV_no (by omega)]
    refine ⟨ao', cap', rfl, fun h => ?_, below_next hA1 (Nat.le_refl _) hb3⟩
    obtain ⟨g, e, hg, hN⟩ := hO3 h
    exact ⟨g, e, Nat.le_trans hA1.size hg, hN⟩
  · obtain ⟨b2, o2, hao2, _⟩ := hs 0 (by omega)
    subst hao2
    go_wp2_with fail
    refine (as_mis _ a w.heap.size _ _ _ (keep_cell hA1 (Nat.le_refl _) hT) hbx).mono ?_
    rintro e w2 ⟨rfl, hcell, hb2⟩
    have hA2 : Below w.heap.size w w2 := hA1.trans hb2
    clear hbx hb2
    have e1 : IntKind.i64.wrap ((i : Int) + 1 + (K : Int) - 1) = ((i + K : Nat) : Int) := by rw [IntKind.wrap_i64]; omega
    have e2 : IntKind.i64.wrap (((i + K : Nat) : Int) - (i : Int)) = (K : Int) := by rw [IntKind.wrap_i64]; omega
    have hk3 : (K : Int) ≤ (m : Int) := by omega
    have hk4 : ((i + K : Nat) : Int) ≤ (n : Int) := by omega
    have f1 : (0 : Int) ≤ (i : Int) + (K : Int) := by omega
    have f2 : (i : Int) + (K : Int) ≤ (cap : Int) := by omega
    have f3 : ((i : Int) + (K : Int)).toNat = i + K := by omega
    have f4 : (i : Int) + (K : Int) - (i : Int) = (K : Int) := by omega
    have f5 : K ≤ m := by omega
    have f6 : K < bcap := by omega
    have f7 : IntKind.i64.wrap ((i : Int) + (K : Int) - (i : Int)) = (K : Int) := by rw [IntKind.wrap_i64]; omega
    go_wp2_with fail
    refine wp_region_held_drew (S := fun _ => True) (by kernel_rfl) trivial (fun _ => ?_)
    refine takeH 0 (some 21) (.slice ao n cap) rfl rfl (by kernel_rfl) (by kernel_rfl) (by kernel_rfl) (fun _ _ _ h => h) (by rfl) trivial (fun w _ => by go_simp <;> first | omega | (rw [IntKind.wrap_i64]; omega)) ?_
    simp only [Act.put, List.setIfInBounds_toArray, List.set_cons_zero, List.set_cons_succ]
    refine takeH 1 (some 22) (.int .i64 ((i : Int) + (K : Int))) rfl rfl (by kernel_rfl) (by kernel_rfl) (by kernel_rfl) (fun _ _ _ h => h) (by rfl) trivial (fun w _ => by go_simp <;> first | omega | (rw [IntKind.wrap_i64]; omega)) ?_
    simp only [Act.put, List.setIfInBounds_toArray, List.set_cons_zero, List.set_cons_succ]
    refine takeH 2 (some 23) (.slice ao (i + K) cap) rfl rfl (by kernel_rfl) (by kernel_rfl) (by kernel_rfl) (fun _ _ _ h => h) (by rfl) trivial (fun w _ => by go_simp <;> first | omega | (rw [IntKind.wrap_i64]; omega)) ?_
    simp only [Act.put, List.setIfInBounds_toArray, List.set_cons_zero, List.set_cons_succ]
    refine takeH 3 (some 24) (.slice (some ⟨b2, o2, none⟩) m bcap) rfl rfl (by kernel_rfl) (by kernel_rfl) (by kernel_rfl) (fun _ _ _ h => h) (by rfl) trivial (fun w _ => by go_simp <;> first | omega | (rw [IntKind.wrap_i64]; omega)) ?_
    simp only [Act.put, List.setIfInBounds_toArray, List.set_cons_zero, List.set_cons_succ]
    refine takeH 4 (some 25) (.int .i64 ((i : Int) + (K : Int))) rfl rfl (by kernel_rfl) (by kernel_rfl) (by kernel_rfl) (fun _ _ _ h => h) (by rfl) trivial (fun w _ => by go_simp <;> first | omega | (rw [IntKind.wrap_i64]; omega)) ?_
    simp only [Act.put, List.setIfInBounds_toArray, List.set_cons_zero, List.set_cons_succ]
    refine takeH 5 (some 26) (.int .i64 (i : Int)) rfl rfl (by kernel_rfl) (by kernel_rfl) (by kernel_rfl) (fun _ _ _ h => h) (by rfl) trivial (fun w _ => by go_simp <;> first | omega | (rw [IntKind.wrap_i64]; omega)) ?_
    simp only [Act.put, List.setIfInBounds_toArray, List.set_cons_zero, List.set_cons_succ]
    refine takeH 6 (some 27) (.int .i64 (K : Int)) rfl rfl (by kernel_rfl) (by kernel_rfl) (by kernel_rfl) (fun _ _ _ h => h) (by rfl) trivial (fun w _ => by go_simp <;> first | omega | (rw [IntKind.wrap_i64]; omega)) ?_
    simp only [Act.put, List.setIfInBounds_toArray, List.set_cons_zero, List.set_cons_succ]
    refine takeH 7 (some 28) (.slice (some ⟨b2, o2 + K * 2, none⟩) (m - K) (bcap - K)) rfl rfl (by kernel_rfl) (by kernel_rfl) (by kernel_rfl) (fun _ _ _ h => h) (by rfl) trivial (fun w _ => by go_simp <;> first | omega | (rw [IntKind.wrap_i64]; omega)) ?_
    simp only [Act.put, List.setIfInBounds_toArray, List.set_cons_zero, List.set_cons_succ]
    refine step1H 8 _ rfl (by kernel_rfl) (by rfl) ?_
    go_simp
    have hW : Below w.heap.size w ((w2.alloc (.cells #[.slice ao (i + K) cap, .slice (some ⟨b2, o2 + K * 2, none⟩) (m - K) (bcap - K)] 24)).drew) := (hA2.alloc hA2.size _).drew
    have c0 : ((w2.alloc (.cells #[.slice ao (i + K) cap, .slice (some ⟨b2, o2 + K * 2, none⟩) (m - K) (bcap - K)] 24)).drew).cell? ⟨w2.heap.size, 0, none⟩ = some (.slice ao (i + K) cap) := by simp [go_sem]
    have c1 : ((w2.alloc (.cells #[.slice ao (i + K) cap, .slice (some ⟨b2, o2 + K * 2, none⟩) (m - K) (bcap - K)] 24)).drew).cell? ⟨w2.heap.size, 1, none⟩ = some (.slice (some ⟨b2, o2 + K * 2, none⟩) (m - K) (bcap - K)) := by simp [go_sem]
    generalize ((w2.alloc (.cells #[.slice ao (i + K) cap, .slice (some ⟨b2, o2 + K * 2, none⟩) (m - K) (bcap - K)] 24)).drew) = W at hW c0 c1 ⊢
    have hC := concatN_any w2.heap.size ao (some ⟨b2, o2 + K * 2, none⟩) (i + K) (m - K) cap (bcap - K) T (fun j => U (K + j)) X (fun j => Y (K + j)) (by omega) (by omega) (by omega) W c0 c1 ((hr.less hkn).below hW (Nat.le_refl _)) ((hs.below hW (Nat.le_refl _)).drop (by omega))
    refine step1H 9 _ rfl (by kernel_rfl) (by rfl) ?_
    go_simp
    refine hC.mono ?_
    rintro e w3 ⟨ao3, cap3, rfl, ⟨g, rfl, hown⟩, hb3⟩
    have hA3 := below_next hW (Nat.le_refl _) hb3
    refine takeH 10 (some 6) (.slice (some ⟨g, 0, none⟩) (i + K + (m - K)) cap3) rfl rfl (by kernel_rfl) (by kernel_rfl) (by kernel_rfl) (fun _ _ _ h => h) (by rfl) trivial (fun w _ => by go_simp) ?_
    simp only [Act.put, List.setIfInBounds_toArray, List.set_cons_zero, List.set_cons_succ]
    refine wpAnyH_done (by kernel_rfl) ?_ _
    go_wp2
    go_ret
    rw [mN_yes hK, mV_yes hK, mV_yes hK]
    have hs9 : i + K + (m - K) = i + m := by omega
    rw [hs9] at hown
    have hN := nhas_of_owns (T := mrg K i T U) (X := mrg K i X Y) hown (by
      rw [← hs9]
      refine nCells_app _ _ (fun j hj => ⟨if_pos hj, if_pos hj⟩) (fun j hj => ?_)
      have hx : ¬ i + K + j < i + K := by omega
      have hy : i + K + j - i = K + j := by omega
      unfold mrg
      rw [if_neg hx, if_neg hx, hy]
      exact ⟨rfl, rfl⟩)
    refine ⟨some ⟨g, 0, none⟩, cap3, by rw [← hs9]; rfl, fun _ => ⟨g, rfl, Nat.le_trans hW.size hN.2, hN.1⟩, hA3⟩

/-- What a merge answers. -/
def mOk (n : Nat) (T : Nat → Int) (X : Nat → ByteArray) (i : Int) (m : Nat) (U : Nat → Int) (Y : Nat → ByteArray) : Bool :=
  logB n T X && (decide (0 ≤ i) && (decide (i ≤ n) && logB (mN n i.toNat m (agN n T i.toNat m U)) (mV m (agN n T i.toNat m U) i.toNat T U) (mV m (agN n T i.toNat m U) i.toNat X Y)))
def mLen (n : Nat) (T : Nat → Int) (X : Nat → ByteArray) (i : Int) (m : Nat) (U : Nat → Int) (Y : Nat → ByteArray) : Nat := if mOk n T X i m U Y = true then mN n i.toNat m (agN n T i.toNat m U) else 0
def MAnsN (w w' : World) (e : Ending) (n : Nat) (T : Nat → Int) (X : Nat → ByteArray) (i : Int) (m : Nat) (U : Nat → Int) (Y : Nat → ByteArray) : Prop :=
  ∃ ao cap, e = .returned (.tuple #[.slice ao (mLen n T X i m U Y) cap, .bool (mOk n T X i m U Y)]) ∧ NOwn w w' ao (mLen n T X i m U Y) (mV m (agN n T i.toNat m U) i.toNat T U) (mV m (agN n T i.toNat m U) i.toNat X Y) ∧ Below w.heap.size w w'
theorem MAnsN.no {w w' : World} {n : Nat} {T : Nat → Int} {X : Nat → ByteArray} {i : Int} {m : Nat} {U : Nat → Int} {Y : Nat → ByteArray} {ao : Option Addr} {cap : Nat} (h : mOk n T X i m U Y = false) (hb : Below w.heap.size w w') : MAnsN w w' (.returned (.tuple #[.slice ao 0 cap, .bool false])) n T X i m U Y := by
  have hl : mLen n T X i m U Y = 0 := if_neg (by rw [h]; simp)
  refine ⟨ao, cap, by rw [hl, h], ?_, hb⟩
  rw [hl]
  exact fun h => by omega
theorem MAnsN.yes {w w' : World} {n : Nat} {T : Nat → Int} {X : Nat → ByteArray} {i : Int} {m : Nat} {U : Nat → Int} {Y : Nat → ByteArray} {ao : Option Addr} {cap : Nat} (h : mOk n T X i m U Y = true) (hO : NOwn w w' ao (mN n i.toNat m (agN n T i.toNat m U)) (mV m (agN n T i.toNat m U) i.toNat T U) (mV m (agN n T i.toNat m U) i.toNat X Y)) (hb : Below w.heap.size w w') : MAnsN w w' (.returned (.tuple #[.slice ao (mN n i.toNat m (agN n T i.toNat m U)) cap, .bool true])) n T X i m U Y := by
  have hl : mLen n T X i m U Y = mN n i.toNat m (agN n T i.toNat m U) := if_pos h
  refine ⟨ao, cap, by rw [hl, h], ?_, hb⟩
  rw [hl]
  exact hO
/-- Each text of a merge is one of the two lists'. -/
theorem mV_le {m k i n : Nat} {X Y : Nat → ByteArray} (hi : i ≤ n) (hk : i + k ≤ n) (hX : ∀ j, j < n → (X j).size ≤ 1048576) (hY : ∀ j, j < m → (Y j).size ≤ 1048576) : ∀ j, j < mN n i m k → (mV m k i X Y j).size ≤ 1048576 := fun j hj => by
  by_cases h : k < m
  · rw [mN_yes h] at hj
    rw [mV_yes h]
    unfold mrg
    split
    · exact hX j (by omega)
    · exact hY _ (by omega)
  · rw [mN_no h] at hj
    rw [mV_no h]
    exact hX j hj

set_option maxHeartbeats 2000000 in
theorem implMerge_any (ao : Option Addr) (n cap : Nat) (T : Nat → Int) (X : Nat → ByteArray) (i : Int) (bo : Option Addr) (m bcap : Nat) (U : Nat → Int) (Y : Nat → ByteArray) (aE aL aO : Addr) (hn : n ≤ 1048576) (hc : n ≤ cap) (hm : m ≤ 1048576) (hbc : m ≤ bcap) (hX : ∀ k, k < n → (X k).size ≤ 1048576) (hY : ∀ k, k < m → (Y k).size ≤ 1048576) (w : World) (hr : NRow w ao n T X) (hs : NRow w bo m U Y)
    (hE : w.cell? ⟨0, 0, none⟩ = some (vE aE)) (hL : w.cell? ⟨1, 0, none⟩ = some (vE aL)) (hO : w.cell? ⟨3, 0, none⟩ = some (vE aO)) (hT : w.cell? ⟨2, 0, none⟩ = some (.iface 68 (.agg #[hdl 39]))) :
    Calls Tryd.prog 7 #[.slice ao n cap, .int .i64 i, .slice bo m bcap] w fun e w' => MAnsN w w' e n T X i m U Y := by
  have HL := fun W h h2 => implLogOk_any ao n cap T X aL (by omega) hX W h h2
  obtain ⟨l, hl⟩ : ∃ l, logB n T X = l := ⟨_, rfl⟩
  rw [hl] at HL
  cases l
  · have hno : mOk n T X i m U Y = false := by unfold mOk; rw [hl]; rfl
    go_enter Tryd.func7, Tryd.ntmps7
    go_wp2_with fail
    refine (HL _ hr hL).mono ?_
    rintro e w1 ⟨rfl, hb1⟩
    go_wp2
    exact bodyPost_ret (v := .tuple #[.slice none 0 0, .bool false]) (by simp [results, Tryd.results7, go_sem]) rfl (MAnsN.no hno hb1)
  by_cases hi : i < 0 ∨ (n : Int) < i
  · have hno : mOk n T X i m U Y = false := by
      unfold mOk
      rcases hi with h | h
      · rw [decide_eq_false (show ¬ 0 ≤ i by omega)]; simp
      · rw [decide_eq_false (show ¬ i ≤ (n : Int) by omega)]; simp
    have HT := fun W h => termAt_out ao n cap i aE (by omega) hi W h
    go_enter Tryd.func7, Tryd.ntmps7
    go_wp2_with fail
    refine (HL _ hr hL).mono ?_
    rintro e w1 ⟨rfl, hb1⟩
    have hE1 := keep_cell hb1 (Nat.le_refl _) hE
    go_wp2_with fail
    refine (HT _ hE1).mono ?_
    rintro e w2 ⟨rfl, hb2⟩
    have hA2 := below_next hb1 (Nat.le_refl _) hb2
    have hE2 := keep_cell hA2 (Nat.le_refl _) hE
    go_wp2_with fail
    refine (is_mis i aE _).mono ?_
    rintro e w3 ⟨rfl, hb3⟩
    go_wp2
    exact bodyPost_ret (v := .tuple #[.slice none 0 0, .bool false]) (by simp [results, Tryd.results7, go_sem]) rfl (MAnsN.no hno (below_next hA2 (Nat.le_refl _) hb3))
  obtain ⟨j, rfl⟩ : ∃ j : Nat, i = j := ⟨i.toNat, by omega⟩
  have hj : j ≤ n := by omega
  have hn2 := (logB_at hl).1
  have HT := fun W h => termAt_in ao n cap T X (j : Int) (by omega) hc (by omega) (by omega) W h
  have HM := fun W h1 h2 h3 h4 h5 => mergedBehind_any ao n cap T X j bo m bcap U Y aE aO hn2 hc hj hm hbc W h1 h2 h3 h4 h5
  have hkn := agN_in (T := T) (m := m) (U := U) hj
  have hok : mOk n T X (j : Int) m U Y = logB (mN n j m (agN n T j m U)) (mV m (agN n T j m U) j T U) (mV m (agN n T j m U) j X Y) := by
    unfold mOk
    rw [hl, decide_eq_true (show (0 : Int) ≤ (j : Int) by omega), decide_eq_true (show (j : Int) ≤ (n : Int) by omega)]
    simp
  have HLM := fun ao' cap' W h h2 => implLogOk_any ao' (mN n j m (agN n T j m U)) cap' (mV m (agN n T j m U) j T U) (mV m (agN n T j m U) j X Y) aL (by unfold mN; split <;> omega) (mV_le hj hkn hX hY) W h h2
  rw [← hok] at HLM
  have HY : Hid (∀ {w' : World} {ao : Option Addr} {cap : Nat}, mOk n T X (j : Int) m U Y = true → NOwn w w' ao (mN n j m (agN n T j m U)) (mV m (agN n T j m U) j T U) (mV m (agN n T j m U) j X Y) → Below w.heap.size w w' → MAnsN w w' (.returned (.tuple #[.slice ao (mN n j m (agN n T j m U)) cap, .bool true])) n T X (j : Int) m U Y) := fun h hO hb => MAnsN.yes h hO hb
  have HN : Hid (∀ {w' : World} {ao : Option Addr} {cap : Nat}, mOk n T X (j : Int) m U Y = false → Below w.heap.size w w' → MAnsN w w' (.returned (.tuple #[.slice ao 0 cap, .bool false])) n T X (j : Int) m U Y) := fun h hb => MAnsN.no h hb
  clear hok
  generalize mOk n T X (j : Int) m U Y = q at HLM HY HN
  generalize mN n j m (agN n T j m U) = N' at HLM HY HN HM
  generalize mV m (agN n T j m U) j T U = T' at HLM HY HN HM
  generalize mV m (agN n T j m U) j X Y = X' at HLM HY HN HM
  generalize lastT ((j : Int)).toNat T = z at HT
  go_enter Tryd.func7, Tryd.ntmps7
  go_wp2_with fail
  refine (HL _ hr hL).mono ?_
  rintro e w1 ⟨rfl, hb1⟩
  have hr1 := hr.below hb1 (Nat.le_refl _)
  go_wp2_with fail
  refine (HT _ hr1).mono ?_
  rintro e w2 ⟨rfl, hq⟩
  have hq' := hq.symm
  subst hq'
  clear hq
  have hE2 := keep_cell hb1 (Nat.le_refl _) hE
  go_wp2_with fail
  refine (is_nil aE _).mono ?_
  rintro e w3 ⟨rfl, hq⟩
  have hq' := hq.symm
  subst hq'
  clear hq
  go_wp2_with fail
  refine (HM _ hr1 (hs.below hb1 (Nat.le_refl _)) hE2 (keep_cell hb1 (Nat.le_refl _) hO) (keep_cell hb1 (Nat.le_refl _) hT)).mono ?_
  rintro e w4 ⟨ao4, cap4, rfl, hO4, hb4⟩
  have hA4 := below_next hb1 (Nat.le_refl _) hb4
  go_wp2_with fail
  refine (HLM ao4 cap4 _ hO4.row (keep_cell hA4 (Nat.le_refl _) hL)).mono ?_
  rintro e w5 ⟨rfl, hb5⟩
  have hA5 := below_next hA4 (Nat.le_refl _) hb5
  cases q
  · go_wp2
    exact bodyPost_ret (v := .tuple #[.slice none 0 0, .bool false]) (by simp [results, Tryd.results7, go_sem]) rfl (HN.out trivial hA5)
  · go_wp2
    refine bodyPost_ret (v := .tuple #[.slice ao4 N' cap4, .bool true]) (by simp [results, Tryd.results7, go_sem]) rfl (HY.out trivial (fun h => ?_) hA5)
    obtain ⟨g, e, hg, hN⟩ := hO4 h
    exact ⟨g, e, Nat.le_trans hb1.size hg, hN.below hb5 hN.lt⟩

end Go.Proofs.YtcmeppjfjledfakDoor
