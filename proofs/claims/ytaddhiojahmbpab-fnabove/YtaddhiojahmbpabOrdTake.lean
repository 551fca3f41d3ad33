/-
  Order, the document's: the list of a place's neighbours, and the square when a place has been taken away.
-/
import Derived.Test.YtaddhiojahmbpabOrdSpec
import Derived.Test.YtaddhiojahmbpabNbrs
set_option linter.unusedVariables false
set_option linter.unusedSimpArgs false
namespace Go.Proofs.Ytaddhiojahmbpab
open Go.RowKit
attribute [local go_sem ↓] Go.wp_at_zero Go.wp_at_succ

/-- The numbers of an index in the square, for the walk. -/
theorem idx_facts {x y p : Nat} (hx : x < p) (hy : y < p) (hp : p ≤ 24) : 0 ≤ (x : Int) * (p : Int) ∧ (x : Int) * (p : Int) ≤ 552 ∧ (x : Int) * (p : Int) + (y : Int) < (p : Int) * (p : Int) ∧ ((x : Int) * (p : Int) + (y : Int)).toNat = x * p + y := by
  have i1 := mul_lt24 hx hp
  have i3 := row_lt hx hy
  refine ⟨Int.mul_nonneg (by omega) (by omega), ?_, ?_, by rw [idx_nn]; omega⟩
  · have : ((x * p : Nat) : Int) ≤ 552 := by omega
    simpa using this
  · have : ((x * p + y : Nat) : Int) < ((p * p : Nat) : Int) := by omega
    simpa using this

set_option maxHeartbeats 1000000 in
theorem l3Neighbours_any (bs p a : Nat) (B : Nat → Nat → Bool) (hp : p ≤ 24) (ha : a < p) (w : World) (hsq : Sq w bs p B) :
    Calls Try.prog 34 #[.slice (some ⟨bs, 0, none⟩) (p * p) (p * p), .int .i64 (p : Int), .int .i64 (a : Int)] w fun e w' => ∃ g c, e = .returned (.slice (some ⟨g, 0, none⟩) (cntB (B a) p) c) ∧ w.heap.size ≤ g ∧ IHas w' g (cntB (B a) p) (nf (B a) p) ∧ Below w.heap.size w w' := by
  have hO0 : IOwn (w.alloc (.cells #[] 2)) w.heap.size w.heap.size 0 0 (nf (B a) 0) := IOwn.empty w (Nat.le_refl _) _
  go_enter Try.func34, Try.ntmps34
  go_wp2
  go_loopw [7, 8] (fun d i wr => ∃ k g c : Nat, k ≤ p ∧ i = .int .i64 k ∧ d = .slice (some ⟨g, 0, none⟩) (cntB (B a) k) c ∧ IOwn wr w.heap.size g c (cntB (B a) k) (nf (B a) k) ∧ Below w.heap.size w wr) (fun _ i _ => p - (intOf i).toNat)
  case atStart => exact ⟨0, w.heap.size, 0, Nat.zero_le _, rfl, rfl, hO0, (Below.refl _ _).alloc (Nat.le_refl _) _⟩
  case round =>
    clear hO0
    obtain ⟨k, g, c, hk, rfl, rfl, hown, hbel⟩ := hrel
    have hgl := hown.lt
    have hgb := hown.base
    have hck := cntB_le (B a) k
    by_cases hlt : k < p
    rotate_left
    · have hkn : k = p := by omega
      subst hkn
      go_wp2
      go_ret
      exact ⟨g, c, rfl, hgb, hown.has, hbel⟩
    have hlt' : (k : Int) < (p : Int) := by omega
    obtain ⟨j1, j2, j3, j4⟩ := idx_facts ha hlt hp
    have d0 := Sq.at (VHas.below hsq hbel (VHas.lt hsq)) ha hlt
    cases hb : B a k
    · have e1 : cntB (B a) (k + 1) = cntB (B a) k := cntB_same hb
      have e2 : nf (B a) (k + 1) = nf (B a) k := by simp [nf, hb]
      rw [hb] at d0
      go_wp2
      go_roundw
      case rel => exact ⟨k + 1, g, c, by omega, by go_num, by rw [e1], by rw [e1, e2]; exact hown, hbel⟩
      case measure => simp [intOf]; omega
    · have e1 : cntB (B a) (k + 1) = cntB (B a) k + 1 := cntB_succ hb
      have e2 : nf (B a) (k + 1) = fun j => if j = cntB (B a) k then (k : Int) else nf (B a) k j := by simp [nf, hb]
      rw [hb] at d0
      go_wp2_with (at_builtin; refine wpList_append_int rfl _ _ rfl w.heap.size g c (cntB (B a) k) (nf (B a) k) rfl (by exact hown.below ((Below.refl _ _).alloc (Nat.le_refl _) _) (by omega)) ⟨wr.heap.size, 0, none⟩ 1 (k : Int) rfl (by simp [go_sem]) (by omega) (by simp; omega) ?_; intro g' c' w3 hown3 hgrow3 hat3)
      have hown4 : IOwn w3 w.heap.size g' c' (cntB (B a) (k + 1)) (nf (B a) (k + 1)) := by
        rw [e1]
        exact hown3 _ (fun j hj => by rw [e2]; simp only []; rw [if_neg (by omega)]) (by rw [e2]; simp)
      have hB3 := (hbel.alloc (o := .cells #[.int .i64 (k : Int)] 2) hbel.size).grown hgrow3 (by have := hbel.size; simp; omega) (fun j hj => by cases hj; omega)
      go_wp2
      go_roundw
      case rel => exact ⟨k + 1, g', c', by omega, by go_num, by rw [e1], hown4, hB3⟩
      case measure => simp [intOf]; omega

set_option maxHeartbeats 2000000 in
theorem l3Take_any (bs p a : Nat) (B : Nat → Nat → Bool) (hp : p ≤ 24) (ha : a < p) (hB : Fair B) (w : World) (hsq : Sq w bs p B) :
    Calls Try.prog 35 #[.slice (some ⟨bs, 0, none⟩) (p * p) (p * p), .int .i64 (p : Int), .int .i64 (a : Int)] w fun e w' => e = .returned (.tuple #[]) ∧ Sq w' bs p (tk B a) ∧ w.grownBy w' (some bs) := by
  have hbl := VHas.lt hsq
  obtain ⟨n, hn⟩ : ∃ n, cntB (B a) p = n := ⟨_, rfl⟩
  obtain ⟨L, hL⟩ : ∃ L, nf (B a) p = L := ⟨_, rfl⟩
  have hat : ∀ i, i < n → ∃ q : Nat, q < p ∧ L i = (q : Int) ∧ B a q = true ∧ cntB (B a) q = i := by
    rw [← hn, ← hL]; exact nf_at p
  have hn24 : n ≤ 24 := by rw [← hn]; exact Nat.le_trans (cntB_le _ _) hp
  have HAT : Hid (∀ i, i < n → ∃ q : Nat, q < p ∧ L i = (q : Int) ∧ B a q = true ∧ cntB (B a) q = i) := hat
  have HN : Hid (cntB (B a) p = n) := hn
  have HB : Hid (Fair B) := hB
  have hnb := l3Neighbours_any bs p a B hp ha w hsq
  rw [hn, hL] at hnb
  have HNB : Hid (Calls Try.prog 34 #[.slice (some ⟨bs, 0, none⟩) (p * p) (p * p), .int .i64 (p : Int), .int .i64 (a : Int)] w fun e w' => ∃ g c, e = .returned (.slice (some ⟨g, 0, none⟩) n c) ∧ w.heap.size ≤ g ∧ IHas w' g n L ∧ Below w.heap.size w w') := hnb
  clear hat hn hL hB hnb
  go_enter Try.func35, Try.ntmps35
  go_wp2_with fail
  refine HNB.out.mono ?_
  rintro e w1 ⟨g, c, rfl, hg, hI1, hb1⟩
  have hsq1 := (VHas.next hsq hb1)
  have hgr1 : w.grownBy w1 (some bs) := ⟨hb1.os, hb1.tape, hb1.output, hb1.size, fun k hk _ => hb1.block k hk⟩
  clear hb1 HNB hsq
  have hne1 : bs ≠ g := by omega
  have hne2 : g ≠ bs := by omega
  go_wp2_with fail
  go_loopw [7] (fun x wr => ∃ i : Nat, i ≤ n ∧ x = .int .i64 i ∧ Sq wr bs p (mid B a i 0 0) ∧ IHas wr g n L ∧ w.grownBy wr (some bs)) (fun x _ => n - (intOf x).toNat)
  case atStart => exact ⟨0, Nat.zero_le _, rfl, BHas.same hsq1 (fun j _ => by unfold flat; rw [mid_start HB.out]), hI1, hgr1⟩
  case round =>
    clear hsq1 hI1 hgr1
    obtain ⟨i, hi, rfl, hs, hI, hgr⟩ := hrel
    by_cases hlt : i < n
    rotate_left
    · have hin : i = n := by omega
      subst hin
      have R : Sq wr bs p (tk B a) := BHas.same hs (fun j hj => by
        unfold flat
        have h1 : j / p < p := Nat.div_lt_of_lt_mul hj
        have h2 : j % p < p := Nat.mod_lt _ (by omega)
        have := mid_end HB.out (a := a) (p := p) (q := 0) h1 h2
        rw [HN.out] at this
        exact this)
      go_wp2
      simp [bodyPost, results, Try.results35, go_sem]
      exact ⟨R, hgr⟩
    obtain ⟨q, hqp, hLq, hBq, hcq⟩ := HAT.out i hlt
    have hlt' : (i : Int) < (n : Int) := by omega
    have HQ : Hid (B a q = true ∧ cntB (B a) q = i) := ⟨hBq, hcq⟩
    clear hBq hcq
    go_wp2
    go_loopw [8] (fun x wr2 => ∃ k : Nat, k ≤ n ∧ x = .int .i64 k ∧ Sq wr2 bs p (mid B a i q k) ∧ IHas wr2 g n L ∧ w.grownBy wr2 (some bs)) (fun x _ => n - (intOf x).toNat)
    case atStart => exact ⟨0, Nat.zero_le _, rfl, BHas.same hs (fun j _ => by unfold flat; exact mid_skip), hI, hgr⟩
    case round =>
      clear hs hI hgr
      obtain ⟨k, hk, rfl, hs, hI, hgr⟩ := hrel
      have e0 := hI.cell hlt
      rw [hLq] at e0
      by_cases hltk : k < n
      rotate_left
      · have hkn : k = n := by omega
        subst hkn
        obtain ⟨j1, j2, j3, j4⟩ := idx_facts ha hqp hp
        obtain ⟨i1, i2, i3, i4⟩ := idx_facts hqp ha hp
        have d0 := Sq.at hs ha hqp
        have z0 := VHas.frozen hs (a * p + q)
        have d1 := Sq.at hs hqp ha
        have z1 := VHas.frozen hs (q * p + a)
        have hqa : q ≠ a := fun e => by
          have := HQ.out.1
          rw [e, HB.out.2] at this; cases this
        have n1 : ¬ a * p + q = q * p + a := fun e => by
          have e1 := flat_at (p := p) (x := a) (fun x y => x == q) hqp
          rw [e, flat_at _ ha] at e1
          simp at e1
          exact hqa e1.symm
        have n2 : ¬ q * p + a = a * p + q := fun e => n1 e.symm
        have R : Sq ((wr.setCell ⟨bs, a * p + q, none⟩ (.bool false)).setCell ⟨bs, q * p + a, none⟩ (.bool false)) bs p (mid B a (i + 1) 0 0) := BHas.same (Sq.put (Sq.put hs (x := a) hqp false) (x := q) ha false) (fun j hj => by
          unfold flat
          have h1 : j / p < p := Nat.div_lt_of_lt_mul hj
          have h2 : j % p < p := Nat.mod_lt _ (by omega)
          have := mid_done HB.out (a := a) (p := p) HQ.out.1 HQ.out.2 h1 h2
          rw [HN.out] at this
          exact this)
        have S := (hI.grown (gr_setCell wr bs (a * p + q) (.bool false)) (by simp; exact hne2)).grown (gr_setCell _ bs (q * p + a) (.bool false)) (by simp; exact hne2)
        have T := (hgr.trans (gr_setCell wr bs (a * p + q) (.bool false))).trans (gr_setCell _ bs (q * p + a) (.bool false))
        clear hs hI hgr
        go_wp2
        go_roundw
        case rel => exact ⟨i + 1, by omega, by go_num, R, S, T⟩
        case measure => simp [intOf]; omega
      obtain ⟨q2, hqp2, hLq2, hBq2, hcq2⟩ := HAT.out k hltk
      have hltk' : (k : Int) < (n : Int) := by omega
      have e1 := hI.cell hltk
      rw [hLq2] at e1
      by_cases hik : i = k
      · subst hik
        have hqq : q = q2 := cntB_inj HQ.out.1 hBq2 (by rw [HQ.out.2, hcq2])
        have R : Sq wr bs p (mid B a i q (i + 1)) := BHas.same hs (fun j hj => by unfold flat; exact mid_pass HQ.out.1 HQ.out.2 _ _)
        clear hs
        go_wp2
        go_roundw
        case rel => exact ⟨i + 1, by omega, by go_num, R, hI, hgr⟩
        case measure => simp [intOf]; omega
      have hik' : ¬ (i : Int) = (k : Int) := by omega
      have hqq : q ≠ q2 := fun e => hik (by rw [← HQ.out.2, ← hcq2, e])
      obtain ⟨j1, j2, j3, j4⟩ := idx_facts hqp hqp2 hp
      have d0 := Sq.at hs hqp hqp2
      have z0 := VHas.frozen hs (q * p + q2)
      have HR : Hid (Sq (wr.setCell ⟨bs, q * p + q2, none⟩ (.bool true)) bs p (mid B a i q (k + 1))) := BHas.same (Sq.put hs (x := q) hqp2 true) (fun j hj => by unfold flat; exact mid_join HB.out HQ.out.1 hBq2 hcq2 hqq _ _)
      have HS : Hid (IHas (wr.setCell ⟨bs, q * p + q2, none⟩ (.bool true)) g n L) := hI.grown (gr_setCell wr bs (q * p + q2) (.bool true)) (by simp; exact hne2)
      have HT : Hid (w.grownBy (wr.setCell ⟨bs, q * p + q2, none⟩ (.bool true)) (some bs)) := hgr.trans (gr_setCell wr bs (q * p + q2) (.bool true))
      clear hs hI hgr hBq2 hcq2 hqq hLq hLq2
      go_wp2
      go_big_region
      go_wp2
      go_roundw
      case rel => exact ⟨k + 1, by omega, by go_num, VHas.of_block HR.out rfl, IHas.of_block HS.out rfl, HT.out.trans ⟨rfl, rfl, rfl, Nat.le_refl _, fun _ _ _ => rfl⟩⟩
      case measure => simp [intOf]; omega

end Go.Proofs.Ytaddhiojahmbpab
