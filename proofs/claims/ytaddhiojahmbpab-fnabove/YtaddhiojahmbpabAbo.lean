/-
  Above: the document's and the program's. For every list of at most 2^20 edges and every two numbers.
-/
import Derived.Test.YtaddhiojahmbpabParImpl
set_option linter.unusedVariables false
set_option linter.unusedSimpArgs false
namespace Go.Proofs.Ytaddhiojahmbpab
open Go.RowKit
attribute [local go_sem ↓] Go.wp_at_zero Go.wp_at_succ

/-- The chain of parents. -/
def ch (D : Nat → Int) (r : Int) : Nat → Int
  | 0 => r
  | k + 1 => if 0 ≤ ch D r k then D (ch D r k).toNat else -1
/-- Where it ends. -/
def ChEnd (D : Nat → Int) (p r : Int) (j : Nat) : Prop := j ≤ 24 ∧ ch D r j < 0 ∧ ∀ i, i < j → 0 ≤ ch D r i ∧ ch D r i < p
theorem ch_shift (D : Nat → Int) {r : Int} (hr : 0 ≤ r) : ∀ i, ch D r (i + 1) = ch D (D r.toNat) i
  | 0 => by simp [ch, hr]
  | i + 1 => by
    have := ch_shift D hr i
    show (if 0 ≤ ch D r (i + 1) then D (ch D r (i + 1)).toNat else -1) = (if 0 ≤ ch D (D r.toNat) i then D (ch D (D r.toNat) i).toNat else -1)
    rw [this]
theorem ch_end {D : Nat → Int} {p : Int} (hD : ∀ q : Nat, (q : Int) < p → D q = -1 ∨ ((q : Int) < D q ∧ D q < p)) : ∀ (d : Nat) (r : Nat), (r : Int) < p → p - r ≤ d → ∃ j, j ≤ d ∧ ch D r j < 0 ∧ ∀ i, i < j → 0 ≤ ch D r i ∧ ch D r i < p
  | 0, r, h1, h2 => by omega
  | d + 1, r, h1, h2 => by
    rcases hD r h1 with h | ⟨h3, h4⟩
    · refine ⟨1, by omega, by simp [ch, h], fun i hi => ?_⟩
      have : i = 0 := by omega
      subst this
      simp [ch]; exact h1
    · obtain ⟨q, hq⟩ : ∃ q : Nat, D r = (q : Int) := ⟨(D r).toNat, by omega⟩
      obtain ⟨j, j1, j2, j3⟩ := ch_end hD d q (by omega) (by omega)
      have e : ∀ i, ch D (r : Int) (i + 1) = ch D (q : Int) i := fun i => by
        rw [ch_shift D (by omega) i, ← hq]; rfl
      refine ⟨j + 1, by omega, by rw [e]; exact j2, fun i hi => ?_⟩
      match i with
      | 0 => simp [ch]; exact h1
      | i + 1 => rw [e]; exact j3 i (by omega)
theorem sp_in {L H : Nat → Int} {n : Nat} {p : Int} (he : ∀ k, k < n → edgeB (L k) (H k) p = true) (r : Nat) : ∀ d, d ≤ n → sp L H n d r = -1 ∨ ((r : Int) < sp L H n d r ∧ sp L H n d r < p)
  | 0, _ => Or.inl rfl
  | d + 1, hd => by
    unfold sp
    split
    · next e =>
      have := edgeB_in (he (n - 1 - d) (by omega))
      exact Or.inr (by omega)
    · exact sp_in he r d (by omega)
/-- What Above answers: j numbers. -/
def AboLen (p : Int) (n : Nat) (L H : Nat → Int) (r : Int) (j : Nat) : Prop := if edgesB p n L H = true ∧ inB r 0 (p - 1) = true then ChEnd (sp L H n n) p r j else j = 0
theorem aboLen_some (p : Int) (n : Nat) (L H : Nat → Int) (r : Int) : ∃ j, j ≤ 24 ∧ AboLen p n L H r j := by
  by_cases h : edgesB p n L H = true ∧ inB r 0 (p - 1) = true
  · obtain ⟨h1, h2⟩ := h
    have h' : (1 ≤ p ∧ p ≤ 24) ∧ edB p L H n = true := by simpa [edgesB, inB] using h1
    have h2' := inB_in h2
    obtain ⟨q, rfl⟩ : ∃ q : Nat, r = (q : Int) := ⟨r.toNat, by omega⟩
    obtain ⟨j, j1, j2, j3⟩ := ch_end (D := sp L H n n) (p := p) (fun q hq => sp_in (edB_at n h'.2) q n (Nat.le_refl _)) 24 q (by omega) (by omega)
    exact ⟨j, j1, by unfold AboLen; rw [if_pos ⟨h1, h2⟩]; exact ⟨j1, j2, j3⟩⟩
  · exact ⟨0, by omega, by unfold AboLen; rw [if_neg h]⟩

/-- A list's length. -/
def vlen : Value → Nat
  | .slice _ n _ => n
  | _ => 0

set_option maxHeartbeats 1600000 in
theorem specAbove_any (p : Int) (ao : Option Addr) (n cap : Nat) (L H : Nat → Int) (r : Int) (j : Nat) (hn : n ≤ 1048576) (hj : AboLen p n L H r j) (w : World) (hr : ERow w ao n L H) :
    Calls Try.prog 8 #[.slice ao n cap, .int .i64 p, .int .i64 r] w fun e w' => Ans w w' e j (ch (sp L H n n) r) := by
  rcases Bool.eq_false_or_eq_true (edgesB p n L H) with h | h
  rotate_left
  · have hj0 : j = 0 := by simpa [AboLen, h] using hj
    subst hj0
    go_enter Try.func8, Try.ntmps8
    go_wp2_with (go_at_call 17; refine (l4Edges_any p ao n cap L H hn _ (hr.alloc _)).mono ?_; rintro e w1 ⟨rfl, hb1⟩)
    go_ret
    exact ⟨_, _, rfl, fun h => by omega, unbox hb1 (by simp)⟩
  have h' : (1 ≤ p ∧ p ≤ 24) ∧ edB p L H n = true := by simpa [edgesB, inB] using h
  obtain ⟨⟨hp1, hp2⟩, hed⟩ := h'
  have HE : Hid (edB p L H n = true) := hed
  clear hed
  rcases Bool.eq_false_or_eq_true (inB r 0 (p - 1)) with h2 | h2
  rotate_left
  · have hj0 : j = 0 := by simpa [AboLen, h, h2] using hj
    subst hj0
    go_enter Try.func8, Try.ntmps8
    go_wp2_with (first | (go_at_call 17; refine (l4Edges_any p ao n cap L H hn _ (hr.alloc _)).mono ?_; rintro e w1 ⟨rfl, hb1⟩) | (go_at_call 18; refine (l1In_any _ _ _ _).mono ?_; rintro e w1 ⟨rfl, rfl⟩))
    go_ret
    exact ⟨_, _, rfl, fun h => by omega, unbox hb1 (by simp)⟩
  have hC : ChEnd (sp L H n n) p r j := by simpa [AboLen, h, h2] using hj
  obtain ⟨D, hD⟩ : ∃ D, sp L H n n = D := ⟨_, rfl⟩
  obtain ⟨m, rfl⟩ : ∃ m : Nat, p = (m : Int) := ⟨p.toNat, by omega⟩
  have hm1 : 1 ≤ m := by omega
  have hm2 : m ≤ 24 := by omega
  have HPA : Hid (∀ W, ERow W ao n L H → Calls Try.prog 19 #[.slice ao n cap, .int .i64 m] W fun e w' => ∃ g c, e = .returned (.slice (some ⟨g, 0, none⟩) m c) ∧ W.heap.size ≤ g ∧ IHas w' g m D ∧ Below W.heap.size W w') := by
    intro W hW
    rw [← hD]
    exact l4Parents_any m ao n cap L H hm1 hm2 hn HE.out W hW
  rw [hD] at hC ⊢
  obtain ⟨hj24, hCe, hCi⟩ := hC
  have HCI : Hid (∀ i, i < j → 0 ≤ ch D r i ∧ ch D r i < (m : Int)) := hCi
  clear hCi hD hj
  have hO0 : IOwn (w.alloc (.cells #[] 2)) w.heap.size w.heap.size 0 0 (ch D r) := IOwn.empty w (Nat.le_refl _) _
  go_enter Try.func8, Try.ntmps8
  go_wp2_with fail
  refine (l4Edges_any m ao n cap L H hn _ (hr.alloc _)).mono ?_
  rintro e w1 ⟨rfl, hb1⟩
  have hO1 := hO0.below hb1 hO0.lt
  have hA1 := unbox hb1 (by simp)
  clear hb1 hO0
  go_wp2_with fail
  refine (l1In_any _ _ _ _).mono ?_
  rintro e w1' ⟨rfl, hq⟩
  have hq' := hq.symm
  subst hq'
  clear hq
  go_wp2_with fail
  refine (HPA.out _ (hr.below hA1 (Nat.le_refl _))).mono ?_
  rintro e w2 ⟨gp, cp, rfl, hgp, hI2, hb2⟩
  have hO2 := hO1.below hb2 hO1.lt
  have hA2 := below_next hA1 (Nat.le_refl _) hb2
  have hOl := hO1.lt
  clear hO1 hA1 hb2
  go_wp2
  go_loopw [9, 7] (fun x d wr => ∃ k g c : Nat, k ≤ j ∧ x = .int .i64 (ch D r k) ∧ d = .slice (some ⟨g, 0, none⟩) k c ∧ IOwn wr w.heap.size g c k (ch D r) ∧ IHas wr gp m D ∧ g ≠ gp ∧ Below w.heap.size w wr) (fun _ d _ => j - vlen d)
  case atStart => exact ⟨0, w.heap.size, 0, Nat.zero_le _, rfl, rfl, hO2, hI2, by omega, hA2⟩
  case round =>
    clear hO2 hI2 hA2
    obtain ⟨k, g, c, hk, rfl, rfl, hown, hI, hne, hbel⟩ := hrel
    have hgl := hown.lt
    have hgb := hown.base
    have hIl := hI.lt
    have hsz := hbel.size
    by_cases hlt : k < j
    rotate_left
    · have hkj : k = j := by omega
      subst hkj
      have hneg : ¬ 0 ≤ ch D r k := by omega
      go_wp2
      go_ret
      exact ⟨_, _, rfl, fun _ => ⟨g, rfl, hgb, hown.has⟩, hbel⟩
    obtain ⟨x0, x1⟩ := HCI.out k hlt
    obtain ⟨q, hq⟩ : ∃ q : Nat, ch D r k = (q : Int) := ⟨(ch D r k).toNat, by omega⟩
    have hnx : Hid (ch D r (k + 1) = D q) := by show (if 0 ≤ ch D r k then D (ch D r k).toNat else -1) = D q; rw [hq]; simp
    have HQ : Hid (ch D r k = (q : Int)) := hq
    rw [hq] at x0 x1 ⊢
    clear hq
    have hqm : q < m := by omega
    have hqm' : (q : Int) < (m : Int) := by omega
    go_wp2_with (at_builtin; refine wpList_append_int rfl _ _ rfl w.heap.size g c k (ch D r) rfl (by exact hown.below ((Below.refl _ _).alloc (Nat.le_refl _) _) (by omega)) ⟨wr.heap.size, 0, none⟩ 1 (q : Int) rfl (by simp [go_sem]) (by omega) (by simp; omega) ?_; intro g' c' w3 hown3 hgrow3 hat3; have hI3 : IHas w3 gp m D := (hI.below ((Below.refl _ _).alloc (o := .cells #[.int .i64 (q : Int)] 2) (Nat.le_refl _)) hIl).grown hgrow3 (by simp; omega); have d0 := hI3.cell hqm)
    have hown4 := hown3 (ch D r) (fun _ _ => rfl) HQ.out
    have hB3 := (hbel.alloc (o := .cells #[.int .i64 (q : Int)] 2) hsz).grown hgrow3 (by simp; omega) (fun j hj => by cases hj; omega)
    have hne3 : g' ≠ gp := by simp at hat3; omega
    clear hown3 hgrow3 hat3 hown hI hbel hne
    go_wp2
    go_roundw
    case rel => exact ⟨k + 1, g', c', by omega, by rw [hnx.out], rfl, hown4, hI3, hne3, hB3⟩
    case measure => simp [vlen]; omega

set_option maxHeartbeats 1600000 in
theorem implAbove_any (p : Int) (ao : Option Addr) (n cap : Nat) (L H : Nat → Int) (r : Int) (j : Nat) (hn : n ≤ 1048576) (hj : AboLen p n L H r j) (w : World) (hr : ERow w ao n L H) :
    Calls Try.prog 6 #[.slice ao n cap, .int .i64 p, .int .i64 r] w fun e w' => Ans w w' e j (ch (sp L H n n) r) := by
  obtain ⟨D, hD⟩ : ∃ D, sp L H n n = D := ⟨_, rfl⟩
  obtain ⟨m, hm⟩ : ∃ m, lenP p n L H = m := ⟨_, rfl⟩
  have hm24 : m ≤ 24 := by rw [← hm]; exact lenP_le _ _ _ _
  have HPA : Hid (∀ W, ERow W ao n L H → Calls Try.prog 15 #[.slice ao n cap, .int .i64 p] W fun e w' => Ans W w' e m D) := by
    intro W hW
    rw [← hD, ← hm]
    exact implParents_any p ao n cap L H hn W hW
  have hO0 : IOwn (w.alloc (.cells #[] 2)) w.heap.size w.heap.size 0 0 (ch D r) := IOwn.empty w (Nat.le_refl _) _
  rcases Bool.eq_false_or_eq_true (inB r 0 ((m : Int) - 1)) with h2 | h2
  rotate_left
  · have hj0 : j = 0 := by
      unfold AboLen at hj
      split at hj
      · next h =>
        have : (m : Int) = p := by
          have h1 := h.1
          simp [edgesB, inB] at h1
          rw [← hm]
          simp [lenP, h.1]
          omega
        rw [this] at h2
        rw [h.2] at h2; cases h2
      · exact hj
    subst hj0
    clear hm
    go_enter Try.func6, Try.ntmps6
    go_wp2_with (first | (go_at_call 15; refine (HPA.out _ (hr.alloc _)).mono ?_; rintro e w1 ⟨aoP, cP, rfl, hP, hb1⟩) | (go_at_call 16; refine (placeOk_any _ _ _).mono ?_; rintro e w1 ⟨rfl, rfl⟩))
    go_ret
    exact ⟨_, _, rfl, fun h => by omega, unbox hb1 (by simp)⟩
  have hin := inB_in h2
  have hm0 : 0 < m := by omega
  have hC : ChEnd D m r j := by
    have h1 : edgesB p n L H = true := by
      cases h : edgesB p n L H
      · simp [lenP, h] at hm; omega
      · rfl
    have : (m : Int) = p := by
      have h1' := h1
      simp [edgesB, inB] at h1'
      rw [← hm]
      simp [lenP, h1]
      omega
    rw [this] at h2 ⊢
    rw [← hD]
    simpa [AboLen, h1, h2] using hj
  obtain ⟨hj24, hCe, hCi⟩ := hC
  have HCI : Hid (∀ i, i < j → 0 ≤ ch D r i ∧ ch D r i < (m : Int)) := hCi
  rw [hD]
  clear hCi hD hj hm
  go_enter Try.func6, Try.ntmps6
  go_wp2_with fail
  refine (HPA.out _ (hr.alloc _)).mono ?_
  rintro e w2 ⟨aoP, cP, rfl, hP, hb2⟩
  obtain ⟨gp, rfl, hgp, hI2⟩ := hP hm0
  have hO2 := hO0.below hb2 hO0.lt
  have hA2 := unbox hb2 (by simp)
  simp at hgp
  clear hb2 hO0 hP
  go_wp2_with fail
  refine (placeOk_any _ _ _).mono ?_
  rintro e w1' ⟨rfl, hq⟩
  have hq' := hq.symm
  subst hq'
  clear hq
  go_wp2
  go_loopw [2, 7] (fun x d wr => ∃ k g c : Nat, k ≤ j ∧ x = .int .i64 (ch D r k) ∧ d = .slice (some ⟨g, 0, none⟩) k c ∧ IOwn wr w.heap.size g c k (ch D r) ∧ IHas wr gp m D ∧ g ≠ gp ∧ Below w.heap.size w wr) (fun _ d _ => j - vlen d)
  case atStart => exact ⟨0, w.heap.size, 0, Nat.zero_le _, rfl, rfl, hO2, hI2, by omega, hA2⟩
  case round =>
    clear hO2 hI2 hA2
    obtain ⟨k, g, c, hk, rfl, rfl, hown, hI, hne, hbel⟩ := hrel
    have hgl := hown.lt
    have hgb := hown.base
    have hIl := hI.lt
    have hsz := hbel.size
    by_cases hlt : k < j
    rotate_left
    · have hkj : k = j := by omega
      subst hkj
      have hneg : ¬ 0 ≤ ch D r k := by omega
      go_wp2
      go_ret
      exact ⟨_, _, rfl, fun _ => ⟨g, rfl, hgb, hown.has⟩, hbel⟩
    obtain ⟨x0, x1⟩ := HCI.out k hlt
    obtain ⟨q, hq⟩ : ∃ q : Nat, ch D r k = (q : Int) := ⟨(ch D r k).toNat, by omega⟩
    have hnx : Hid (ch D r (k + 1) = D q) := by show (if 0 ≤ ch D r k then D (ch D r k).toNat else -1) = D q; rw [hq]; simp
    have HQ : Hid (ch D r k = (q : Int)) := hq
    rw [hq] at x0 x1 ⊢
    clear hq
    have hqm : q < m := by omega
    have hqm' : (q : Int) < (m : Int) := by omega
    go_wp2_with (at_builtin; refine wpList_append_int rfl _ _ rfl w.heap.size g c k (ch D r) rfl (by exact hown.below ((Below.refl _ _).alloc (Nat.le_refl _) _) (by omega)) ⟨wr.heap.size, 0, none⟩ 1 (q : Int) rfl (by simp [go_sem]) (by omega) (by simp; omega) ?_; intro g' c' w3 hown3 hgrow3 hat3; have hI3 : IHas w3 gp m D := (hI.below ((Below.refl _ _).alloc (o := .cells #[.int .i64 (q : Int)] 2) (Nat.le_refl _)) hIl).grown hgrow3 (by simp; omega); have d0 := hI3.cell hqm)
    have hown4 := hown3 (ch D r) (fun _ _ => rfl) HQ.out
    have hB3 := (hbel.alloc (o := .cells #[.int .i64 (q : Int)] 2) hsz).grown hgrow3 (by simp; omega) (fun j hj => by cases hj; omega)
    have hne3 : g' ≠ gp := by simp at hat3; omega
    clear hown3 hgrow3 hat3 hown hI hbel hne
    go_wp2
    go_roundw
    case rel => exact ⟨k + 1, g', c', by omega, by rw [hnx.out], rfl, hown4, hI3, hne3, hB3⟩
    case measure => simp [vlen]; omega

end Go.Proofs.Ytaddhiojahmbpab
