/-
  Reached, the document's and the program's: the places that are not Far, in new memory.
-/
import Derived.Test.YtkmkkdjacdcojaaDistWhole
set_option linter.unusedVariables false
set_option linter.unusedSimpArgs false
namespace Go.Proofs.Ytkmkkdjacdcojaa
open Go.RowKit Go.Maps
attribute [local go_sem ↓] Go.wp_at_zero Go.wp_at_succ

/-- How many of the first k are not Far, and which. -/
def rc (D : Nat → Int) : Nat → Nat
  | 0 => 0
  | k + 1 => if D k < 1000000000000 then rc D k + 1 else rc D k
def rf (D : Nat → Int) : Nat → (Nat → Int)
  | 0 => fun _ => 0
  | k + 1 => if D k < 1000000000000 then up1 (rf D k) (rc D k) (k : Int) else rf D k
theorem rc_le (D : Nat → Int) : ∀ k, rc D k ≤ k
  | 0 => Nat.le_refl _
  | k + 1 => by unfold rc; have := rc_le D k; split <;> omega
theorem listD_hi (p : Int) (n : Nat) (F T G : Nat → Int) (s : Int) (v : Nat) : listD p n F T G s v ≤ 1000000000000 := by
  unfold listD
  have h2 := turns_le F T G n (start s.toNat) v p.toNat
  have h3 := (start_lo s.toNat v).2
  omega

set_option maxHeartbeats 1000000 in
theorem specReached_any (p : Int) (ao : Option Addr) (n cap : Nat) (F T G : Nat → Int) (s : Int) (hn : n ≤ 1048576) (w : World) (hr : Row w ao n F T G) :
    Calls Try.prog 20 #[.agg #[.int .i64 p, .slice ao n cap], .int .i64 s] w fun e w' => Ans w w' e (rc (listD p n F T G s) (lenD p n F T G s)) (rf (listD p n F T G s) (lenD p n F T G s)) := by
  have hds := fun ao' cap' W hr' => specDistances_any p ao' n cap' F T G s hn W hr'
  have hhi := listD_hi p n F T G s
  have hm24 := lenD_le p n F T G s
  generalize lenD p n F T G s = m at hds hm24 ⊢
  generalize listD p n F T G s = D at hds hhi ⊢
  have HDS : Hid (∀ ao' cap' W, Row W ao' n F T G → Calls Try.prog 18 #[.agg #[.int .i64 p, .slice ao' n cap'], .int .i64 s] W fun e w' => Ans W w' e m D) := hds
  have HHI : Hid (∀ v, D v ≤ 1000000000000) := hhi
  clear hds hhi
  go_enter Try.func20, Try.ntmps20
  go_wp2_with fail
  refine (HDS.out _ _ _ ((hr.alloc _).alloc _)).mono ?_
  rintro e w2 ⟨aoD, capD, rfl, hD, hb2⟩
  have hO0 : IOwn ((w.alloc (.cells #[.int .i64 p, .slice ao n cap] 26)).alloc (.cells #[] 2)) (w.heap.size + 1) (w.heap.size + 1) 0 0 (rf D 0) := by
    simpa using IOwn.empty (w.alloc (.cells #[.int .i64 p, .slice ao n cap] 26)) (base := w.heap.size + 1) (by simp) (rf D 0)
  have hO2 := hO0.below hb2 hO0.lt
  have hB2 : Below (w.heap.size + 1) (w.alloc (.cells #[.int .i64 p, .slice ao n cap] 26)) w2 := ((Below.refl _ _).alloc (by simp) _).trans (hb2.mono (by simp))
  obtain ⟨gd, hgd1, hgd2, hgd3⟩ : ∃ gd, (0 < m → aoD = some ⟨gd, 0, none⟩) ∧ gd ≠ w.heap.size + 1 ∧ (0 < m → IHas w2 gd m D) := by
    by_cases h0 : 0 < m
    · obtain ⟨g, e, hge, hI⟩ := hD h0
      simp at hge
      exact ⟨g, fun _ => e, by omega, fun _ => hI⟩
    · exact ⟨0, fun h => absurd h h0, by omega, fun h => absurd h h0⟩
  clear hD hb2 hO0
  go_wp2_with fail
  go_loopw [5, 7] (fun d i wr => ∃ k g c : Nat, k ≤ m ∧ i = .int .i64 k ∧ d = .slice (some ⟨g, 0, none⟩) (rc D k) c ∧ IOwn wr (w.heap.size + 1) g c (rc D k) (rf D k) ∧ (0 < m → IHas wr gd m D) ∧ g ≠ gd ∧ Below (w.heap.size + 1) (w.alloc (.cells #[.int .i64 p, .slice ao n cap] 26)) wr) (fun _ i _ => m - (intOf i).toNat)
  case atStart => exact ⟨0, w.heap.size + 1, 0, Nat.zero_le _, rfl, rfl, hO2, hgd3, fun e => hgd2 e.symm, hB2⟩
  case round =>
    obtain ⟨k, g, c, hk, rfl, rfl, hown, hId, hne, hbel⟩ := hrel
    clear hO2 hgd3 hB2
    have hgl := hown.lt
    have hgb := hown.base
    have hrk := rc_le D k
    by_cases hlt : k < m
    rotate_left
    · have hkm : k = m := by omega
      subst hkm
      go_wp2
      go_ret
      exact ⟨_, _, rfl, fun _ => ⟨g, rfl, by omega, hown.has⟩, unbox hbel (by omega)⟩
    obtain rfl := hgd1 (by omega)
    have d0 := (hId (by omega)).cell hlt
    have hdl := (hId (by omega)).lt
    have hlt' : (k : Int) < (m : Int) := by omega
    have hk0 : (0 : Int) ≤ (k : Int) := by omega
    have hhi := HHI.out k
    by_cases hf : D k < 1000000000000
    · have hq : (D k == 1000000000000) = false := by simp; omega
      have e1 : rc D (k + 1) = rc D k + 1 := by simp [rc, hf]
      have e2 : rf D (k + 1) = up1 (rf D k) (rc D k) (k : Int) := by simp [rf, hf]
      go_wp2_with (at_builtin; refine wpList_append_int rfl _ _ rfl (w.heap.size + 1) g c (rc D k) (rf D k) rfl (by exact hown.below ((Below.refl _ _).alloc (Nat.le_refl _) _) (by omega)) ⟨wr.heap.size, 0, none⟩ 1 (k : Int) rfl (by simp [go_sem]) (by omega) (by simp; omega) ?_; intro g' c' w3 hown3 hgrow3 hat3)
      have hId3 : 0 < m → IHas w3 gd m D := fun h => ((hId h).below ((Below.refl wr.heap.size wr).alloc (Nat.le_refl _) _) (hId h).lt).grown hgrow3 (by simp; exact fun e => hne e.symm)
      have hne3 : g' ≠ gd := by
        rcases hat3 with e | e
        · omega
        · simp at e; omega
      have hown4 : IOwn w3 (w.heap.size + 1) g' c' (rc D (k + 1)) (rf D (k + 1)) := by
        rw [e1]
        exact hown3 _ (fun j hj => by rw [e2, up1_other _ _ (by omega)]) (by rw [e2, up1_same])
      have hB3 := (hbel.alloc (o := .cells #[.int .i64 (k : Int)] 2) (by omega)).grown hgrow3 (by simp; omega) (fun j hj => by cases hj; omega)
      go_wp2
      go_roundw
      case rel => exact ⟨k + 1, g', c', by omega, by go_num, by rw [e1], hown4, hId3, hne3, hB3⟩
      case measure => simp [intOf]; omega
    · have hq : (D k == 1000000000000) = true := by simp; omega
      have e1 : rc D (k + 1) = rc D k := by simp [rc, hf]
      have e2 : rf D (k + 1) = rf D k := by simp [rf, hf]
      go_wp2
      go_roundw
      case rel => exact ⟨k + 1, g, c, by omega, by go_num, by rw [e1], by rw [e1, e2]; exact hown, hId, hne, hbel⟩
      case measure => simp [intOf]; omega

set_option maxHeartbeats 1000000 in
theorem implReached_any (p : Int) (ao : Option Addr) (n cap : Nat) (F T G : Nat → Int) (s : Int) (hn : n ≤ 1048576) (w : World) (hr : Row w ao n F T G) :
    Calls Try.prog 19 #[.agg #[.int .i64 p, .slice ao n cap], .int .i64 s] w fun e w' => Ans w w' e (rc (listD p n F T G s) (lenD p n F T G s)) (rf (listD p n F T G s) (lenD p n F T G s)) := by
  have hds := fun ao' cap' W hr' => implDistances_any p ao' n cap' F T G s hn W hr'
  have hhi := listD_hi p n F T G s
  have hm24 := lenD_le p n F T G s
  generalize lenD p n F T G s = m at hds hm24 ⊢
  generalize listD p n F T G s = D at hds hhi ⊢
  have HDS : Hid (∀ ao' cap' W, Row W ao' n F T G → Calls Try.prog 16 #[.agg #[.int .i64 p, .slice ao' n cap'], .int .i64 s] W fun e w' => Ans W w' e m D) := hds
  have HHI : Hid (∀ v, D v ≤ 1000000000000) := hhi
  clear hds hhi
  go_enter Try.func19, Try.ntmps19
  go_wp2_with fail
  refine (HDS.out _ _ _ ((hr.alloc _).alloc _)).mono ?_
  rintro e w2 ⟨aoD, capD, rfl, hD, hb2⟩
  have hO0 : IOwn ((w.alloc (.cells #[.int .i64 p, .slice ao n cap] 26)).alloc (.cells #[] 2)) (w.heap.size + 1) (w.heap.size + 1) 0 0 (rf D 0) := by
    simpa using IOwn.empty (w.alloc (.cells #[.int .i64 p, .slice ao n cap] 26)) (base := w.heap.size + 1) (by simp) (rf D 0)
  have hO2 := hO0.below hb2 hO0.lt
  have hB2 : Below (w.heap.size + 1) (w.alloc (.cells #[.int .i64 p, .slice ao n cap] 26)) w2 := ((Below.refl _ _).alloc (by simp) _).trans (hb2.mono (by simp))
  obtain ⟨gd, hgd1, hgd2, hgd3⟩ : ∃ gd, (0 < m → aoD = some ⟨gd, 0, none⟩) ∧ gd ≠ w.heap.size + 1 ∧ (0 < m → IHas w2 gd m D) := by
    by_cases h0 : 0 < m
    · obtain ⟨g, e, hge, hI⟩ := hD h0
      simp at hge
      exact ⟨g, fun _ => e, by omega, fun _ => hI⟩
    · exact ⟨0, fun h => absurd h h0, by omega, fun h => absurd h h0⟩
  clear hD hb2 hO0
  go_wp2_with fail
  go_loopw [5, 13] (fun d i wr => ∃ k g c : Nat, k ≤ m ∧ i = .int .i64 k ∧ d = .slice (some ⟨g, 0, none⟩) (rc D k) c ∧ IOwn wr (w.heap.size + 1) g c (rc D k) (rf D k) ∧ (0 < m → IHas wr gd m D) ∧ g ≠ gd ∧ Below (w.heap.size + 1) (w.alloc (.cells #[.int .i64 p, .slice ao n cap] 26)) wr) (fun _ i _ => m - (intOf i).toNat)
  case atStart => exact ⟨0, w.heap.size + 1, 0, Nat.zero_le _, rfl, rfl, hO2, hgd3, fun e => hgd2 e.symm, hB2⟩
  case round =>
    obtain ⟨k, g, c, hk, rfl, rfl, hown, hId, hne, hbel⟩ := hrel
    clear hO2 hgd3 hB2
    have hgl := hown.lt
    have hgb := hown.base
    have hrk := rc_le D k
    by_cases hlt : k < m
    rotate_left
    · have hkm : k = m := by omega
      subst hkm
      go_wp2
      go_ret
      exact ⟨_, _, rfl, fun _ => ⟨g, rfl, by omega, hown.has⟩, unbox hbel (by omega)⟩
    obtain rfl := hgd1 (by omega)
    have d0 := (hId (by omega)).cell hlt
    have hdl := (hId (by omega)).lt
    have hlt' : (k : Int) < (m : Int) := by omega
    have hk0 : (0 : Int) ≤ (k : Int) := by omega
    have hhi := HHI.out k
    by_cases hf : D k < 1000000000000
    · have e1 : rc D (k + 1) = rc D k + 1 := by simp [rc, hf]
      have e2 : rf D (k + 1) = up1 (rf D k) (rc D k) (k : Int) := by simp [rf, hf]
      go_wp2_with (at_builtin; refine wpList_append_int rfl _ _ rfl (w.heap.size + 1) g c (rc D k) (rf D k) rfl (by exact hown.below ((Below.refl _ _).alloc (Nat.le_refl _) _) (by omega)) ⟨wr.heap.size, 0, none⟩ 1 (k : Int) rfl (by simp [go_sem]) (by omega) (by simp; omega) ?_; intro g' c' w3 hown3 hgrow3 hat3)
      have hId3 : 0 < m → IHas w3 gd m D := fun h => ((hId h).below ((Below.refl wr.heap.size wr).alloc (Nat.le_refl _) _) (hId h).lt).grown hgrow3 (by simp; exact fun e => hne e.symm)
      have hne3 : g' ≠ gd := by
        rcases hat3 with e | e
        · omega
        · simp at e; omega
      have hown4 : IOwn w3 (w.heap.size + 1) g' c' (rc D (k + 1)) (rf D (k + 1)) := by
        rw [e1]
        exact hown3 _ (fun j hj => by rw [e2, up1_other _ _ (by omega)]) (by rw [e2, up1_same])
      have hB3 := (hbel.alloc (o := .cells #[.int .i64 (k : Int)] 2) (by omega)).grown hgrow3 (by simp; omega) (fun j hj => by cases hj; omega)
      go_wp2
      go_roundw
      case rel => exact ⟨k + 1, g', c', by omega, by go_num, by rw [e1], hown4, hId3, hne3, hB3⟩
      case measure => simp [intOf]; omega
    · have e1 : rc D (k + 1) = rc D k := by simp [rc, hf]
      have e2 : rf D (k + 1) = rf D k := by simp [rf, hf]
      go_wp2
      go_roundw
      case rel => exact ⟨k + 1, g, c, by omega, by go_num, by rw [e1], by rw [e1, e2]; exact hown, hId, hne, hbel⟩
      case measure => simp [intOf]; omega

end Go.Proofs.Ytkmkkdjacdcojaa
