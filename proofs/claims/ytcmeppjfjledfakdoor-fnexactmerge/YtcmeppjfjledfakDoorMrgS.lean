/-
  Merge, the document's, by its contract.
-/
import Derived.Test.YtcmeppjfjledfakDoorMrgI
import Derived.Test.YtcmeppjfjledfakDoorEntA
set_option linter.unusedVariables false
set_option linter.unusedSimpArgs false
namespace Go.Proofs.YtcmeppjfjledfakDoor
open Go.RowKit Go.Maps
attribute [local go_sem ↓] Go.wp_at_zero Go.wp_at_succ

theorem mOk_at {n : Nat} {T : Nat → Int} {X : Nat → ByteArray} {j m : Nat} {U : Nat → Int} {Y : Nat → ByteArray} (hl : logB n T X = true) (hj : j ≤ n) : mOk n T X (j : Int) m U Y = logB (mN n j m (agN n T j m U)) (mV m (agN n T j m U) j T U) (mV m (agN n T j m U) j X Y) := by
  unfold mOk
  rw [hl, decide_eq_true (show (0 : Int) ≤ (j : Int) by omega), decide_eq_true (show (j : Int) ≤ (n : Int) by omega)]
  simp
theorem MAnsN.yes' {w w' : World} {n : Nat} {T : Nat → Int} {X : Nat → ByteArray} {j : Nat} {m : Nat} {U : Nat → Int} {Y : Nat → ByteArray} {g cap base N' : Nat} {T' : Nat → Int} {X' : Nat → ByteArray} (h : mOk n T X (j : Int) m U Y = true)
    (hN : mN n j m (agN n T j m U) = N') (hT : mV m (agN n T j m U) j T U = T') (hX : mV m (agN n T j m U) j X Y = X') (hg : w.heap.size ≤ g) (hO : NHas w' g N' T' X') (hb : Below w.heap.size w w') :
    MAnsN w w' (.returned (.tuple #[.slice (some ⟨g, 0, none⟩) N' cap, .bool true])) n T X (j : Int) m U Y := by
  subst hN hT hX
  exact MAnsN.yes h (fun _ => ⟨g, rfl, hg, hO⟩) hb

set_option maxRecDepth 100000 in
set_option maxHeartbeats 4000000 in
theorem specMerge_any (ao : Option Addr) (n cap : Nat) (T : Nat → Int) (X : Nat → ByteArray) (i : Int) (bo : Option Addr) (m bcap : Nat) (U : Nat → Int) (Y : Nat → ByteArray) (hn : n ≤ 1048576) (hc : n ≤ cap) (hm : m ≤ 1048576) (hbc : m ≤ bcap) (hX : ∀ k, k < n → (X k).size ≤ 1048576) (hY : ∀ k, k < m → (Y k).size ≤ 1048576) (w : World) (hr : NRow w ao n T X) (hs : NRow w bo m U Y) :
    Calls Tryd.prog 5 #[.slice ao n cap, .int .i64 i, .slice bo m bcap] w fun e w' => MAnsN w w' e n T X i m U Y := by
  have HL := fun W h => specLogOk_any ao n cap T X (by omega) hX W h
  obtain ⟨l, hl⟩ : ∃ l, logB n T X = l := ⟨_, rfl⟩
  rw [hl] at HL
  cases l
  · have hno : mOk n T X i m U Y = false := by unfold mOk; rw [hl]; rfl
    go_enter Tryd.func5, Tryd.ntmps5
    go_wp2_with fail
    refine (HL _ hr).mono ?_
    rintro e w1 ⟨rfl, hb1⟩
    go_wp2
    refine bodyPost_ret (v := .tuple #[.slice (some ⟨w1.heap.size, 0, none⟩) 0 0, .bool false]) (by simp [results, Tryd.results5, go_sem]) rfl (MAnsN.no hno (hb1.alloc hb1.size _))
  have hn2 := (logB_at hl).1
  by_cases hi : i < 0 ∨ (n : Int) < i
  · have hno : mOk n T X i m U Y = false := by
      unfold mOk
      rcases hi with h | h
      · rw [decide_eq_false (show ¬ 0 ≤ i by omega)]; simp
      · rw [decide_eq_false (show ¬ i ≤ (n : Int) by omega)]; simp
    have hb : inB i 0 (n : Int) = false := by simp [inB]; omega
    have HI : ∀ W, Calls Tryd.prog 13 #[.int .i64 i, .int .i64 0, .int .i64 (n : Int)] W fun e w' => e = .returned (.bool false) ∧ w' = W := fun W => by rw [← hb]; exact l1In_any _ _ _ _
    go_enter Tryd.func5, Tryd.ntmps5
    go_wp2_with fail
    refine (HL _ hr).mono ?_
    rintro e w1 ⟨rfl, hb1⟩
    go_wp2_with (go_at_call 13; refine (HI _).mono ?_; rintro e w2 ⟨rfl, hq⟩; have hq' := hq.symm; subst hq'; clear hq)
    refine bodyPost_ret (v := .tuple #[.slice (some ⟨w1.heap.size, 0, none⟩) 0 0, .bool false]) (by simp [results, Tryd.results5, go_sem]) rfl (MAnsN.no hno (hb1.alloc hb1.size _))
  obtain ⟨j, rfl⟩ : ∃ j : Nat, i = j := ⟨i.toNat, by omega⟩
  have hj : j ≤ n := by omega
  have hb : inB (j : Int) 0 (n : Int) = true := by simp [inB]; omega
  have HI : ∀ W, Calls Tryd.prog 13 #[.int .i64 (j : Int), .int .i64 0, .int .i64 (n : Int)] W fun e w' => e = .returned (.bool true) ∧ w' = W := fun W => by rw [← hb]; exact l1In_any _ _ _ _
  go_enter Tryd.func5, Tryd.ntmps5
  go_wp2_with fail
  refine (HL _ hr).mono ?_
  rintro e w1 ⟨rfl, hb1⟩
  go_wp2_with (go_at_call 13; refine (HI _).mono ?_; rintro e w2 ⟨rfl, hq⟩; have hq' := hq.symm; subst hq'; clear hq)
  have hr1 := hr.below hb1 (Nat.le_refl _)
  have hs1 := hs.below hb1 (Nat.le_refl _)
  have HA : Hid (∀ k, k ≤ m → (∀ j', j' < k → agF n T U j j' = true) → (k < m → agF n T U j k = false) → agN n T j m U = k) := fun k h1 h2 h3 => ag_is h1 h2 h3
  go_loopw [9] (fun q wr => ∃ k : Nat, k ≤ m ∧ q = .int .i64 k ∧ (∀ j', j' < k → agF n T U j j' = true) ∧ Below w1.heap.size w1 wr) (fun q _ => m - (intOf q).toNat)
  case atStart => exact ⟨0, Nat.zero_le _, rfl, fun j hj => by omega, Below.refl _ _⟩
  case round =>
    obtain ⟨k, hk, rfl, hat, hbel⟩ := hrel
    have hjk1 : IntKind.i64.wrap ((j : Int) + (k : Int)) = (j : Int) + (k : Int) := by rw [IntKind.wrap_i64]; omega
    have hq : ∀ q, Below w1.heap.size w1 (wr.drewN q) := fun q => below_drewN hbel q
    have hqw : ∀ q, Below w.heap.size w (wr.drewN q) := fun q => below_next hb1 (Nat.le_refl _) (hq q)
    have hsz : w.heap.size ≤ wr.heap.size := Nat.le_trans hb1.size hbel.size
    by_cases hlt : k < m
    rotate_left
    · have hkn : k = m := by omega
      subst hkn
      have hKm := HA.out k (Nat.le_refl _) hat (fun h => by omega)
      have hok : mOk n T X (j : Int) k U Y = true := by rw [mOk_at hl hj, hKm, mN_no (by omega), mV_no (by omega), mV_no (by omega)]; exact hl
      have HF : Hid (∀ {w' : World} {g cap : Nat}, w.heap.size ≤ g → NHas w' g n T X → Below w.heap.size w w' → MAnsN w w' (.returned (.tuple #[.slice (some ⟨g, 0, none⟩) n cap, .bool true])) n T X (j : Int) k U Y) := fun hg hO hb => MAnsN.yes' (base := 0) hok (by rw [hKm, mN_no (by omega)]) (by rw [hKm, mV_no (by omega)]) (by rw [hKm, mV_no (by omega)]) hg hO hb
      have HL2 := fun ao' cap' W h => specLogOk_any ao' n cap' T X (by omega) hX W h
      rw [hl] at HL2
      clear hok hKm HA hat hs1
      go_wp2_with fail
      go_quiet (fail)
      go_wp2_with (first | (at_builtin; refine wpList_appN rfl _ _ rfl _ wr.heap.size 0 0 [] rfl (empty_ownsN _) ao n cap T X rfl ((hr1.below (hq _) (Nat.le_refl _)).alloc _) (by omega) (by simp) ?_; intro g cap' w2 hown2 hb2))
      simp only [Nat.zero_add, List.nil_append] at hown2 ⊢
      obtain ⟨hN2, hg2⟩ := nhas_of_owns hown2 rfl
      have hA2 : Below w.heap.size w w2 := ((hqw _).alloc (by simpa using hsz) _).trans (hb2.mono (by simpa using hsz))
      have hg3 : w.heap.size ≤ g := Nat.le_trans (by simpa using hsz) hg2
      clear hown2 hb2 hg2
      go_wp2_with fail
      refine (HL2 _ _ _ (nhas_row hN2)).mono ?_
      rintro e w3 ⟨rfl, hb3⟩
      go_wp2
      exact bodyPost_ret (v := .tuple #[.slice (some ⟨g, 0, none⟩) n cap', .bool true]) (by simp [results, Tryd.results5, go_sem]) rfl (HF.out hg3 (hN2.below hb3 hN2.lt) (below_next hA2 (Nat.le_refl _) hb3))
    have hk9 : (k : Int) < (m : Int) := by omega
    have hkn : j + k ≤ n := by
      rcases Nat.eq_zero_or_pos k with h | h
      · omega
      · have := of_decide_eq_true (hat (k - 1) (by omega))
        omega
    obtain ⟨b2, o2, hao2, e0, e1⟩ := (hs1.below hbel (Nat.le_refl _)) k hlt
    subst hao2
    by_cases hin : j + k < n
    rotate_left
    · have hno : agF n T U j k = false := decide_eq_false (by omega)
      have hin' : ¬ (j : Int) + (k : Int) < (n : Int) := by omega
      have hin2 : (n : Int) ≤ (j : Int) + (k : Int) := by omega
      have hin3 : decide ((j : Int) + (k : Int) < (n : Int)) = false := decide_eq_false hin'
      have hKm := HA.out k hk hat (fun _ => hno)
      have hok := mOk_at (m := m) (U := U) (Y := Y) hl hj
      rw [hKm, mN_yes hlt, mV_yes hlt, mV_yes hlt] at hok
      have hXX : ∀ x, x < j + m → (mrg k j X Y x).size ≤ 1048576 := fun x hx => by
        have := mV_le (m := m) hj hkn hX hY x (by rw [mN_yes hlt]; exact hx)
        rwa [mV_yes hlt] at this
      have HL2 := fun ao' cap' W h => specLogOk_any ao' (j + m) cap' (mrg k j T U) (mrg k j X Y) (by omega) hXX W h
      rw [← hok] at HL2
      have HF : Hid (∀ {w' : World} {g cap : Nat}, mOk n T X (j : Int) m U Y = true → w.heap.size ≤ g → NHas w' g (j + m) (mrg k j T U) (mrg k j X Y) → Below w.heap.size w w' → MAnsN w w' (.returned (.tuple #[.slice (some ⟨g, 0, none⟩) (j + m) cap, .bool true])) n T X (j : Int) m U Y) := fun hy hg hO hb => MAnsN.yes' (base := 0) hy (by rw [hKm, mN_yes hlt]) (by rw [hKm, mV_yes hlt]) (by rw [hKm, mV_yes hlt]) hg hO hb
      have HNo : Hid (∀ {w' : World} {ao : Option Addr} {cap : Nat}, mOk n T X (j : Int) m U Y = false → Below w.heap.size w w' → MAnsN w w' (.returned (.tuple #[.slice ao 0 cap, .bool false])) n T X (j : Int) m U Y) := fun h hb => MAnsN.no h hb
      clear hok hKm HA hat hno
      generalize mOk n T X (j : Int) m U Y = q at HL2 HF HNo
      go_wp2_with fail
      go_quiet (fail)
      go_wp2_with (first | (at_builtin; refine wpList_appN rfl _ _ rfl _ wr.heap.size 0 0 [] rfl (empty_ownsN _) ao n cap T X rfl ((hr1.below (hq _) (Nat.le_refl _)).alloc _) (by omega) (by simp) ?_; intro g cap' w2 hown2 hb2))
      simp only [Nat.zero_add, List.nil_append] at hown2 ⊢
      have hA2 : Below w.heap.size w w2 := ((hqw _).alloc (by simpa using hsz) _).trans (hb2.mono (by simpa using hsz))
      clear hown2 hb2
      have f2 : (0 : Int) ≤ (j : Int) + (k : Int) := by omega
      have f3 : (j : Int) + (k : Int) ≤ (cap : Int) := by omega
      have f4 : ((j : Int) + (k : Int)).toNat = j + k := by omega
      have f5 : k ≤ m := by omega
      have f6 : k < bcap := by omega
      have hrk := ((hr.below hA2 (Nat.le_refl _)).less hkn)
      have hsk := NRow.drop (k := k) (hs.below hA2 (Nat.le_refl _)) (by omega)
      go_wp2_with fail
      refine wp_region_held_drew (S := fun _ => True) (by kernel_rfl) trivial (fun _ => ?_)
      refine takeH 1 (some 60) (.slice ao n cap) rfl rfl (by kernel_rfl) (by kernel_rfl) (by kernel_rfl) (fun _ _ _ h => h) (by rfl) trivial (fun w _ => by go_simp <;> first | omega | (rw [IntKind.wrap_i64]; omega)) ?_
      simp only [Act.put, List.setIfInBounds_toArray, List.set_cons_zero, List.set_cons_succ]
      refine takeH 2 (some 61) (.int .i64 (j : Int)) rfl rfl (by kernel_rfl) (by kernel_rfl) (by kernel_rfl) (fun _ _ _ h => h) (by rfl) trivial (fun w _ => by go_simp <;> first | omega | (rw [IntKind.wrap_i64]; omega)) ?_
      simp only [Act.put, List.setIfInBounds_toArray, List.set_cons_zero, List.set_cons_succ]
      refine takeH 3 (some 62) (.int .i64 (k : Int)) rfl rfl (by kernel_rfl) (by kernel_rfl) (by kernel_rfl) (fun _ _ _ h => h) (by rfl) trivial (fun w _ => by go_simp <;> first | omega | (rw [IntKind.wrap_i64]; omega)) ?_
      simp only [Act.put, List.setIfInBounds_toArray, List.set_cons_zero, List.set_cons_succ]
      refine takeH 4 (some 63) (.int .i64 ((j : Int) + (k : Int))) rfl rfl (by kernel_rfl) (by kernel_rfl) (by kernel_rfl) (fun _ _ _ h => h) (by rfl) trivial (fun w _ => by go_simp <;> first | omega | (rw [IntKind.wrap_i64]; omega)) ?_
      simp only [Act.put, List.setIfInBounds_toArray, List.set_cons_zero, List.set_cons_succ]
      refine takeH 5 (some 64) (.slice ao (j + k) cap) rfl rfl (by kernel_rfl) (by kernel_rfl) (by kernel_rfl) (fun _ _ _ h => h) (by rfl) trivial (fun w _ => by go_simp <;> first | omega | (rw [IntKind.wrap_i64]; omega)) ?_
      simp only [Act.put, List.setIfInBounds_toArray, List.set_cons_zero, List.set_cons_succ]
      refine takeH 7 (some 66) (.slice (some ⟨b2, o2, none⟩) m bcap) rfl rfl (by kernel_rfl) (by kernel_rfl) (by kernel_rfl) (fun _ _ _ h => h) (by rfl) trivial (fun w _ => by go_simp <;> first | omega | (rw [IntKind.wrap_i64]; omega)) ?_
      simp only [Act.put, List.setIfInBounds_toArray, List.set_cons_zero, List.set_cons_succ]
      refine takeH 8 (some 67) (.int .i64 (k : Int)) rfl rfl (by kernel_rfl) (by kernel_rfl) (by kernel_rfl) (fun _ _ _ h => h) (by rfl) trivial (fun w _ => by go_simp <;> first | omega | (rw [IntKind.wrap_i64]; omega)) ?_
      simp only [Act.put, List.setIfInBounds_toArray, List.set_cons_zero, List.set_cons_succ]
      refine takeH 9 (some 68) (.slice (some ⟨b2, o2 + k * 2, none⟩) (m - k) (bcap - k)) rfl rfl (by kernel_rfl) (by kernel_rfl) (by kernel_rfl) (fun _ _ _ h => h) (by rfl) trivial (fun w _ => by go_simp <;> first | omega | (rw [IntKind.wrap_i64]; omega)) ?_
      simp only [Act.put, List.setIfInBounds_toArray, List.set_cons_zero, List.set_cons_succ]
      refine step1H 0 _ rfl (by kernel_rfl) (by rfl) ?_
      go_simp
      refine step1H 6 _ rfl (by kernel_rfl) (by rfl) ?_
      refine wp_appN _ _ rfl _ w2.heap.size 0 0 [] rfl (empty_ownsN w2) ao (j + k) cap T X rfl (hrk.alloc _) (by omega) (by simp) ?_
      intro g3 cap3 w3 hown3 hb3
      simp only [Nat.zero_add, List.nil_append] at hown3 ⊢
      have hb23 : Below w2.heap.size w2 w3 := (((Below.refl _ _).alloc (Nat.le_refl _) _).drew).trans hb3
      refine ⟨trivial, ?_⟩
      refine step1H 10 _ rfl (by kernel_rfl) (by rfl) ?_
      refine wp_appN _ _ rfl _ g3 (j + k) cap3 (nCells T X (j + k)) rfl hown3 (some ⟨b2, o2 + k * 2, none⟩) (m - k) (bcap - k) (fun x => U (k + x)) (fun x => Y (k + x)) rfl (hsk.below hb23 (Nat.le_refl _)) (by omega) hb23.size ?_
      intro g4 cap4 w4 hown4 hb4
      refine ⟨trivial, ?_⟩
      have hs9 : j + k + (m - k) = j + m := by omega
      rw [hs9] at hown4 ⊢
      have hN4 := nhas_of_owns (T := mrg k j T U) (X := mrg k j X Y) hown4 (by
        rw [← hs9]
        refine nCells_app _ _ (fun x hx => ⟨if_pos hx, if_pos hx⟩) (fun x hx => ?_)
        have hx1 : ¬ j + k + x < j + k := by omega
        have hy1 : j + k + x - j = k + x := by omega
        unfold mrg
        rw [if_neg hx1, if_neg hx1, hy1]
        exact ⟨rfl, rfl⟩)
      have hA4 : Below w.heap.size w w4 := below_next hA2 (Nat.le_refl _) (hb23.trans hb4)
      have hg4 : w.heap.size ≤ g4 := Nat.le_trans hA2.size hN4.2
      refine takeH 11 (some 10) (.slice (some ⟨g4, 0, none⟩) (j + m) cap4) rfl rfl (by kernel_rfl) (by kernel_rfl) (by kernel_rfl) (fun _ _ _ h => h) (by rfl) trivial (fun w _ => by go_simp) ?_
      simp only [Act.put, List.setIfInBounds_toArray, List.set_cons_zero, List.set_cons_succ]
      refine wpAnyH_done (by kernel_rfl) ?_ _
      clear hown3 hown4 hb3 hb4 hb23
      go_wp2_with fail
      refine (HL2 _ _ _ (nhas_row hN4.1)).mono ?_
      rintro e w5 ⟨rfl, hb5⟩
      have hA5 := below_next hA4 (Nat.le_refl _) hb5
      cases q
      · go_wp2
        exact bodyPost_ret (v := .tuple #[.slice (some ⟨w5.heap.size, 0, none⟩) 0 0, .bool false]) (by simp [results, Tryd.results5, go_sem]) rfl (HNo.out trivial (hA5.alloc hA5.size _))
      · go_wp2
        exact bodyPost_ret (v := .tuple #[.slice (some ⟨g4, 0, none⟩) (j + m) cap4, .bool true]) (by simp [results, Tryd.results5, go_sem]) rfl (HF.out trivial hg4 (hN4.1.below hb5 hN4.1.lt) hA5)
    have hin' : (j : Int) + (k : Int) < (n : Int) := by omega
    obtain ⟨b1, o1, hao1, d0, d1⟩ := (hr1.below hbel (Nat.le_refl _)) (j + k) hin
    subst hao1
    have f0 : (0 : Int) ≤ (j : Int) + (k : Int) := by omega
    have f1 : ((j : Int) + (k : Int)).toNat = j + k := by omega
    by_cases hTT : T (j + k) = U k
    · have hyes : agF n T U j k = true := decide_eq_true ⟨hin, hTT⟩
      go_wp2_with fail
      go_quiet (fail)
      go_wp2
      go_roundw
      case rel =>
        refine ⟨k + 1, by omega, by go_num, fun j' hj' => ?_, hq _⟩
        by_cases e : j' = k
        · subst e; exact hyes
        · exact hat j' (by omega)
      case measure => simp [intOf]; omega
    · have hno : agF n T U j k = false := decide_eq_false (fun h => hTT h.2)
      have hKm := HA.out k hk hat (fun _ => hno)
      have hok := mOk_at (m := m) (U := U) (Y := Y) hl hj
      rw [hKm, mN_yes hlt, mV_yes hlt, mV_yes hlt] at hok
      have hXX : ∀ x, x < j + m → (mrg k j X Y x).size ≤ 1048576 := fun x hx => by
        have := mV_le (m := m) hj hkn hX hY x (by rw [mN_yes hlt]; exact hx)
        rwa [mV_yes hlt] at this
      have HL2 := fun ao' cap' W h => specLogOk_any ao' (j + m) cap' (mrg k j T U) (mrg k j X Y) (by omega) hXX W h
      rw [← hok] at HL2
      have HF : Hid (∀ {w' : World} {g cap : Nat}, mOk n T X (j : Int) m U Y = true → w.heap.size ≤ g → NHas w' g (j + m) (mrg k j T U) (mrg k j X Y) → Below w.heap.size w w' → MAnsN w w' (.returned (.tuple #[.slice (some ⟨g, 0, none⟩) (j + m) cap, .bool true])) n T X (j : Int) m U Y) := fun hy hg hO hb => MAnsN.yes' (base := 0) hy (by rw [hKm, mN_yes hlt]) (by rw [hKm, mV_yes hlt]) (by rw [hKm, mV_yes hlt]) hg hO hb
      have HNo : Hid (∀ {w' : World} {ao : Option Addr} {cap : Nat}, mOk n T X (j : Int) m U Y = false → Below w.heap.size w w' → MAnsN w w' (.returned (.tuple #[.slice ao 0 cap, .bool false])) n T X (j : Int) m U Y) := fun h hb => MAnsN.no h hb
      clear hok hKm HA hat hno
      generalize mOk n T X (j : Int) m U Y = q at HL2 HF HNo
      go_wp2_with fail
      go_quiet (fail)
      go_wp2_with (first | (at_builtin; refine wpList_appN rfl _ _ rfl _ wr.heap.size 0 0 [] rfl (empty_ownsN _) (some ⟨b1, o1, none⟩) n cap T X rfl ((hr1.below (hq _) (Nat.le_refl _)).alloc _) (by omega) (by simp) ?_; intro g cap' w2 hown2 hb2))
      simp only [Nat.zero_add, List.nil_append] at hown2 ⊢
      have hA2 : Below w.heap.size w w2 := ((hqw _).alloc (by simpa using hsz) _).trans (hb2.mono (by simpa using hsz))
      clear hown2 hb2
      have f2 : (0 : Int) ≤ (j : Int) + (k : Int) := by omega
      have f3 : (j : Int) + (k : Int) ≤ (cap : Int) := by omega
      have f4 : ((j : Int) + (k : Int)).toNat = j + k := by omega
      have f5 : k ≤ m := by omega
      have f6 : k < bcap := by omega
      have hrk := ((hr.below hA2 (Nat.le_refl _)).less hkn)
      have hsk := NRow.drop (k := k) (hs.below hA2 (Nat.le_refl _)) (by omega)
      go_wp2_with fail
      refine wp_region_held_drew (S := fun _ => True) (by kernel_rfl) trivial (fun _ => ?_)
      refine takeH 1 (some 60) (.slice (some ⟨b1, o1, none⟩) n cap) rfl rfl (by kernel_rfl) (by kernel_rfl) (by kernel_rfl) (fun _ _ _ h => h) (by rfl) trivial (fun w _ => by go_simp <;> first | omega | (rw [IntKind.wrap_i64]; omega)) ?_
      simp only [Act.put, List.setIfInBounds_toArray, List.set_cons_zero, List.set_cons_succ]
      refine takeH 2 (some 61) (.int .i64 (j : Int)) rfl rfl (by kernel_rfl) (by kernel_rfl) (by kernel_rfl) (fun _ _ _ h => h) (by rfl) trivial (fun w _ => by go_simp <;> first | omega | (rw [IntKind.wrap_i64]; omega)) ?_
      simp only [Act.put, List.setIfInBounds_toArray, List.set_cons_zero, List.set_cons_succ]
      refine takeH 3 (some 62) (.int .i64 (k : Int)) rfl rfl (by kernel_rfl) (by kernel_rfl) (by kernel_rfl) (fun _ _ _ h => h) (by rfl) trivial (fun w _ => by go_simp <;> first | omega | (rw [IntKind.wrap_i64]; omega)) ?_
      simp only [Act.put, List.setIfInBounds_toArray, List.set_cons_zero, List.set_cons_succ]
      refine takeH 4 (some 63) (.int .i64 ((j : Int) + (k : Int))) rfl rfl (by kernel_rfl) (by kernel_rfl) (by kernel_rfl) (fun _ _ _ h => h) (by rfl) trivial (fun w _ => by go_simp <;> first | omega | (rw [IntKind.wrap_i64]; omega)) ?_
      simp only [Act.put, List.setIfInBounds_toArray, List.set_cons_zero, List.set_cons_succ]
      refine takeH 5 (some 64) (.slice (some ⟨b1, o1, none⟩) (j + k) cap) rfl rfl (by kernel_rfl) (by kernel_rfl) (by kernel_rfl) (fun _ _ _ h => h) (by rfl) trivial (fun w _ => by go_simp <;> first | omega | (rw [IntKind.wrap_i64]; omega)) ?_
      simp only [Act.put, List.setIfInBounds_toArray, List.set_cons_zero, List.set_cons_succ]
      refine takeH 7 (some 66) (.slice (some ⟨b2, o2, none⟩) m bcap) rfl rfl (by kernel_rfl) (by kernel_rfl) (by kernel_rfl) (fun _ _ _ h => h) (by rfl) trivial (fun w _ => by go_simp <;> first | omega | (rw [IntKind.wrap_i64]; omega)) ?_
      simp only [Act.put, List.setIfInBounds_toArray, List.set_cons_zero, List.set_cons_succ]
      refine takeH 8 (some 67) (.int .i64 (k : Int)) rfl rfl (by kernel_rfl) (by kernel_rfl) (by kernel_rfl) (fun _ _ _ h => h) (by rfl) trivial (fun w _ => by go_simp <;> first | omega | (rw [IntKind.wrap_i64]; omega)) ?_
      simp only [Act.put, List.setIfInBounds_toArray, List.set_cons_zero, List.set_cons_succ]
      refine takeH 9 (some 68) (.slice (some ⟨b2, o2 + k * 2, none⟩) (m - k) (bcap - k)) rfl rfl (by kernel_rfl) (by kernel_rfl) (by kernel_rfl) (fun _ _ _ h => h) (by rfl) trivial (fun w _ => by go_simp <;> first | omega | (rw [IntKind.wrap_i64]; omega)) ?_
      simp only [Act.put, List.setIfInBounds_toArray, List.set_cons_zero, List.set_cons_succ]
      refine step1H 0 _ rfl (by kernel_rfl) (by rfl) ?_
      go_simp
      refine step1H 6 _ rfl (by kernel_rfl) (by rfl) ?_
      refine wp_appN _ _ rfl _ w2.heap.size 0 0 [] rfl (empty_ownsN w2) (some ⟨b1, o1, none⟩) (j + k) cap T X rfl (hrk.alloc _) (by omega) (by simp) ?_
      intro g3 cap3 w3 hown3 hb3
      simp only [Nat.zero_add, List.nil_append] at hown3 ⊢
      have hb23 : Below w2.heap.size w2 w3 := (((Below.refl _ _).alloc (Nat.le_refl _) _).drew).trans hb3
      refine ⟨trivial, ?_⟩
      refine step1H 10 _ rfl (by kernel_rfl) (by rfl) ?_
      refine wp_appN _ _ rfl _ g3 (j + k) cap3 (nCells T X (j + k)) rfl hown3 (some ⟨b2, o2 + k * 2, none⟩) (m - k) (bcap - k) (fun x => U (k + x)) (fun x => Y (k + x)) rfl (hsk.below hb23 (Nat.le_refl _)) (by omega) hb23.size ?_
      intro g4 cap4 w4 hown4 hb4
      refine ⟨trivial, ?_⟩
      have hs9 : j + k + (m - k) = j + m := by omega
      rw [hs9] at hown4 ⊢
      have hN4 := nhas_of_owns (T := mrg k j T U) (X := mrg k j X Y) hown4 (by
        rw [← hs9]
        refine nCells_app _ _ (fun x hx => ⟨if_pos hx, if_pos hx⟩) (fun x hx => ?_)
        have hx1 : ¬ j + k + x < j + k := by omega
        have hy1 : j + k + x - j = k + x := by omega
        unfold mrg
        rw [if_neg hx1, if_neg hx1, hy1]
        exact ⟨rfl, rfl⟩)
      have hA4 : Below w.heap.size w w4 := below_next hA2 (Nat.le_refl _) (hb23.trans hb4)
      have hg4 : w.heap.size ≤ g4 := Nat.le_trans hA2.size hN4.2
      refine takeH 11 (some 10) (.slice (some ⟨g4, 0, none⟩) (j + m) cap4) rfl rfl (by kernel_rfl) (by kernel_rfl) (by kernel_rfl) (fun _ _ _ h => h) (by rfl) trivial (fun w _ => by go_simp) ?_
      simp only [Act.put, List.setIfInBounds_toArray, List.set_cons_zero, List.set_cons_succ]
      refine wpAnyH_done (by kernel_rfl) ?_ _
      clear hown3 hown4 hb3 hb4 hb23
      go_wp2_with fail
      refine (HL2 _ _ _ (nhas_row hN4.1)).mono ?_
      rintro e w5 ⟨rfl, hb5⟩
      have hA5 := below_next hA4 (Nat.le_refl _) hb5
      cases q
      · go_wp2
        exact bodyPost_ret (v := .tuple #[.slice (some ⟨w5.heap.size, 0, none⟩) 0 0, .bool false]) (by simp [results, Tryd.results5, go_sem]) rfl (HNo.out trivial (hA5.alloc hA5.size _))
      · go_wp2
        exact bodyPost_ret (v := .tuple #[.slice (some ⟨g4, 0, none⟩) (j + m) cap4, .bool true]) (by simp [results, Tryd.results5, go_sem]) rfl (HF.out trivial hg4 (hN4.1.below hb5 hN4.1.lt) hA5)

end Go.Proofs.YtcmeppjfjledfakDoor
