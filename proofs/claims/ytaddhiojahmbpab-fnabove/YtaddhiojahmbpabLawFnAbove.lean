/-
  Proved: at every list of bytes the law FnAbove answers true, and its argument reads behind the call as it read before. No condition.
-/
import Derived.Test.YtaddhiojahmbpabDrawAb
import Derived.Test.YtaddhiojahmbpabAboM
import Derived.Test.YtaddhiojahmbpabFillSp
set_option linter.unusedVariables false
set_option linter.unusedSimpArgs false
namespace Go.Proofs.Ytaddhiojahmbpab
open Go.ChangeShapes Go.WideShapes Go.ChangeAt Go.RowKit Go.Deep Go.Joins
attribute [local go_sem ↓] Go.wp_at_zero Go.wp_at_succ

/-- Whether b is among the first k numbers. -/
def gB (D : Nat → Int) (b : Int) : Nat → Bool
  | 0 => false
  | k + 1 => gB D b k || D k == b
theorem gB_has {D : Nat → Int} {b : Int} {i : Nat} (h : D i = b) : ∀ n, i < n → gB D b n = true
  | 0, h => by omega
  | n + 1, h' => by
    by_cases e : i = n
    · subst e; simp [gB, h]
    · simp [gB, gB_has h n (by omega)]
theorem eans_row {W w' : World} {ao : Option Addr} {m : Nat} {L H : Nat → Int} (h : 0 < m → ∃ g, ao = some ⟨g, 0, none⟩ ∧ W.heap.size ≤ g ∧ EHas w' g m (er L H)) : ERow w' ao m L H := fun k hk => by
  obtain ⟨g, e, _, hI⟩ := h (by omega)
  subst e
  exact hI.row k hk

set_option maxRecDepth 100000 in
set_option maxHeartbeats 16000000 in
theorem lawFnAbove_walk (ao : Option Addr) (n cap : Nat) (hn : n ≤ maxLen) (w : World) (hr : ByRow w w.heap.size ao n) :
    Calls Try.prog 3 #[.slice ao n cap] w fun e w' => e = .returned (.bool true) ∧ Below w.heap.size w w' := by
  unfold maxLen at hn
  by_cases hbig : 4096 < n
  · have hd : decide (4096 < n) = true := by simp [hbig]
    go_enter Try.func3, Try.ntmps3
    go_wp2_with (go_at_call 4; refine (big_any ao n cap (by omega) _).mono ?_; rintro e wq ⟨rfl, rfl⟩)
    go_ret
    exact ⟨rfl, Below.refl _ _⟩
  have hd : decide (4096 < n) = false := by simp [hbig]
  have hn' : n ≤ 4096 := by omega
  go_enter Try.func3, Try.ntmps3
  go_wp2_with fail
  refine (big_any ao n cap (by omega) _).mono ?_
  rintro e wq ⟨rfl, hq⟩
  have hq' := hq.symm
  subst hq'
  clear hq
  rw [hd]
  clear hd
  go_wp2_with fail
  refine (drawAbove_any ao n cap hn' _ hr).mono ?_
  rintro e w1 ⟨g, ec, l, x, y, rfl, hl, hrow1, hA1⟩
  obtain ⟨N, hN⟩ : ∃ N, l.length = N := ⟨_, rfl⟩
  rw [hN] at hl hrow1 ⊢
  have hN' : N ≤ 1048576 := by omega
  obtain ⟨m, hm24, hm⟩ := aboLen_some x N (Lf l) (Hf l) y
  obtain ⟨D, hD⟩ : ∃ D, ch (sp (Lf l) (Hf l) N N) y = D := ⟨_, rfl⟩
  have hi1 := fun W hr' => implAbove_any x (some ⟨g, 0, none⟩) N ec (Lf l) (Hf l) y m hN' hm W hr'
  have hs1 := fun W hr' => specAbove_any x (some ⟨g, 0, none⟩) N ec (Lf l) (Hf l) y m hN' hm W hr'
  have hrise : ∀ i, i + 1 < m → ch (sp (Lf l) (Hf l) N N) y i < ch (sp (Lf l) (Hf l) N N) y (i + 1) := fun i hi => abo_rise hm hi
  rw [hD] at hi1 hs1 hrise
  have HI : Hid (∀ W, ERow W (some ⟨g, 0, none⟩) N (Lf l) (Hf l) → Calls Try.prog 6 #[.slice (some ⟨g, 0, none⟩) N ec, .int .i64 x, .int .i64 y] W fun e w' => Ans W w' e m D) := hi1
  have HS : Hid (∀ W, ERow W (some ⟨g, 0, none⟩) N (Lf l) (Hf l) → Calls Try.prog 8 #[.slice (some ⟨g, 0, none⟩) N ec, .int .i64 x, .int .i64 y] W fun e w' => Ans W w' e m D) := hs1
  have HR : Hid (∀ i, i + 1 < m → D i < D (i + 1)) := hrise
  clear hi1 hs1 hrise hm hD hN
  generalize Lf l = Ll at hrow1 HI HS
  generalize Hf l = Hl at hrow1 HI HS
  have hm' : m ≤ 1048576 := by omega
  go_wp2_with fail
  refine (HI.out _ hrow1).mono ?_
  rintro e w2 ⟨aoD, capD, rfl, hD2, hb2⟩
  have hd2 := ans_row hD2
  have hrow2 := hrow1.below hb2 (Nat.le_refl _)
  have hA2 := below_next hA1 (Nat.le_refl _) hb2
  clear hD2 hb2 hrow1 hA1
  go_wp2_with fail
  refine (HS.out _ hrow2).mono ?_
  rintro e w3 ⟨aoS, capS, rfl, hS3, hb3⟩
  have hs3 := ans_row hS3
  have hd3 := hd2.below hb3 (Nat.le_refl _)
  have hA3 := below_next hA2 (Nat.le_refl _) hb3
  clear hS3 hb3 hd2 hrow2 hA2 HI HS
  go_wp2_with fail
  refine (likeInts_same aoD aoS m capD capS D hm' _ hd3 hs3).mono ?_
  rintro e w4 ⟨rfl, hb4⟩
  have hd4 := hd3.below hb4 (Nat.le_refl _)
  have hA4 := below_next hA3 (Nat.le_refl _) hb4
  clear hb4 hd3 hs3 hA3
  go_wp2_with fail
  go_loopw [7] (fun x wr => ∃ i : Nat, 1 ≤ i ∧ i ≤ m + 1 ∧ (i ≤ m ∨ i = 1) ∧ x = .int .i64 i ∧ Below w4.heap.size w4 wr) (fun x _ => m + 1 - (intOf x).toNat)
  case atStart => exact ⟨1, Nat.le_refl _, by omega, Or.inr rfl, rfl, Below.refl _ _⟩
  case round =>
    obtain ⟨i, hi1, hi2, hi3, rfl, hbel⟩ := hrel
    have hdw := hd4.below hbel (Nat.le_refl _)
    have hAw := below_next hA4 (Nat.le_refl _) hbel
    by_cases hlt : i < m
    · have hlt' : (i : Int) < (m : Int) := by omega
      have hi0 : (0 : Int) ≤ (i : Int) := by omega
      obtain ⟨i', rfl⟩ : ∃ i', i = i' + 1 := ⟨i - 1, by omega⟩
      have hris := HR.out i' hlt
      obtain ⟨b, o, e1, c1⟩ := hdw (i' + 1) hlt
      obtain ⟨b2, o2, e2, c2⟩ := hdw i' (by omega)
      subst e1
      simp at e2
      obtain ⟨rfl, rfl⟩ := e2
      have hle : ¬ D (i' + 1) ≤ D i' := by omega
      have hw1 : IntKind.i64.wrap (((i' + 1 : Nat) : Int) - 1) = (i' : Int) := by rw [IntKind.wrap_i64]; omega
      have hi'0 : (0 : Int) ≤ (i' : Int) := by omega
      have hi'1 : (i' : Int) < (m : Int) := by omega
      go_wp2
      go_quiet (fail)
      go_wp2
      go_roundw
      case rel => exact ⟨i' + 1 + 1, by omega, by omega, Or.inl (by omega), by go_num, below_drewN hbel _⟩
      case measure => simp [intOf]; omega
    have hnlt : ¬ (i : Int) < (m : Int) := by omega
    clear HR hd4 hdw hA4 hbel
    go_wp2_with fail
    refine (drawFill_any ao n cap hn' _ (hr.up hAw)).mono ?_
    rintro e w5 ⟨p, go, k, gc, po, mm, pc, P, rfl, hk, hmm, ⟨F, T, G, hrow5⟩, hP5, hb5⟩
    have hal5 := (Below.refl w5.heap.size w5).alloc (Nat.le_refl _) (.cells #[.int .i64 p, .slice go k gc] 32)
    have hA5 := below_next (below_next hAw (Nat.le_refl _) hb5) (Nat.le_refl _) hal5
    have hrw5 := hrow5.alloc (.cells #[.int .i64 p, .slice go k gc] 32)
    have hp5 := hP5.alloc (.cells #[.int .i64 p, .slice go k gc] 32)
    have hk' : k ≤ 1048576 := by omega
    have hmm' : mm ≤ 1048576 := by omega
    obtain ⟨q, hq⟩ : ∃ q, lenF p k F T G mm P = q := ⟨_, rfl⟩
    obtain ⟨L, hL⟩ : ∃ L, Lf (lstF p k F T P) = L := ⟨_, rfl⟩
    obtain ⟨H, hH⟩ : ∃ H, Hf (lstF p k F T P) = H := ⟨_, rfl⟩
    have hq1000 : q ≤ 1000 := by rw [← hq]; exact lenF_le p k F T G mm P
    have hqq : q ≤ 1048576 := by omega
    have hso := fun W hr' hp' => specFill_any p go k gc F T G po mm pc P hk' hmm' W hr' hp'
    rw [hq, hL, hH] at hso
    have HSO : Hid (∀ W, Row W go k F T G → IRow W po mm P → Calls Try.prog 10 #[.agg #[.int .i64 p, .slice go k gc], .slice po mm pc] W fun e w' => EAns W w' e q L H) := hso
    have HQ : Hid (lenF p k F T G mm P = q) := hq
    have HL : Hid (Lf (lstF p k F T P) = L) := hL
    have HH : Hid (Hf (lstF p k F T P) = H) := hH
    clear hso hq hL hH hrow5 hP5 hal5 hb5 hAw
    have g0 : (w5.alloc (.cells #[.int .i64 p, .slice go k gc] 32)).cell? ⟨w5.heap.size, 0, none⟩ = some (.int .i64 p) := by simp [go_sem]
    have g1 : (w5.alloc (.cells #[.int .i64 p, .slice go k gc] 32)).cell? ⟨w5.heap.size, 1, none⟩ = some (.slice go k gc) := by simp [go_sem]
    go_wp2_with fail
    refine (HSO.out _ hrw5 hp5).mono ?_
    rintro e w6 ⟨aoE, capE, rfl, hE6, hb6⟩
    have he6 := eans_row hE6
    have hA6 := below_next hA5 (Nat.le_refl _) hb6
    have hrw6 := hrw5.below hb6 (Nat.le_refl _)
    have hp6 := hp5.below hb6 (Nat.le_refl _)
    have c0 := keep_cell hb6 (Nat.le_refl _) g0
    have c1 := keep_cell hb6 (Nat.le_refl _) g1
    clear hE6 hb6 hrw5 hp5 g0 g1 hA5 HSO
    obtain ⟨gb, hgb⟩ : ∃ gb, w5.heap.size = gb := ⟨_, rfl⟩
    rw [hgb] at c0 c1 ⊢
    clear hgb
    obtain ⟨bo, hbo⟩ : ∃ bo, ordB p k F T G mm P = bo := ⟨_, rfl⟩
    have HOK : Hid (∀ W, Row W go k F T G → IRow W po mm P → Calls Try.prog 11 #[.agg #[.int .i64 p, .slice go k gc], .slice po mm pc] W fun e w' => e = .returned (.bool bo) ∧ Below W.heap.size W w') := fun W h1 h2 => by
      have := specOrderOk_any p go k gc F T G po mm pc P hk' hmm' W h1 h2
      rw [hbo] at this
      exact this
    go_wp2_with fail
    refine (HOK.out _ hrw6 hp6).mono ?_
    rintro e w7 ⟨rfl, hb7⟩
    have hA7 := below_next hA6 (Nat.le_refl _) hb7
    have he7 := he6.below hb7 (Nat.le_refl _)
    replace c0 := keep_cell hb7 (Nat.le_refl _) c0
    replace c1 := keep_cell hb7 (Nat.le_refl _) c1
    clear hA6 he6 hrw6 hp6 hb7 HOK
    cases bo
    · go_wp2
      go_ret
      exact ⟨rfl, hA7⟩
    obtain ⟨hmp, hgr, ⟨hm1, hm2⟩, heach⟩ := ordB_parts hbo
    subst hmp
    have hqL : (lstF (mm : Int) k F T P).length = q := by rw [← HQ.out, lenF, hbo]; rfl
    have hlst : allS (nbA F T k) P mm mm = lstF (mm : Int) k F T P := by simp [lstF]
    have HCH : Hid (∀ e, e < q → ∃ j D', j ≤ 24 ∧ gB D' (H e) j = true ∧ ∀ W, ERow W aoE q L H → Calls Try.prog 6 #[.slice aoE q capE, .int .i64 (mm : Int), .int .i64 (L e)] W fun e w' => Ans W w' e j D') := fun e he => by
      obtain ⟨j, j1, j2, i, i1, i2⟩ := fill_chain hm1 hm2 heach hlst (k := e) (by omega)
      rw [hqL, HL.out, HH.out] at j2 i2
      exact ⟨j, _, j1, gB_has i2 j i1, fun W hW => implAbove_any (mm : Int) aoE q capE L H (L e) j hqq j2 W hW⟩
    clear hqL hlst heach hgr hbo HQ HL HH
    go_wp2_with fail
    go_loopw [11] (fun x wr => ∃ i : Nat, i ≤ q ∧ x = .int .i64 i ∧ Below w7.heap.size w7 wr) (fun x _ => q - (intOf x).toNat)
    case atStart => exact ⟨0, Nat.zero_le _, rfl, Below.refl _ _⟩
    case round =>
      obtain ⟨e, he, rfl, hbel⟩ := hrel
      have b0 := keep_cell hbel (Nat.le_refl _) c0
      have b1 := keep_cell hbel (Nat.le_refl _) c1
      have hew := he7.below hbel (Nat.le_refl _)
      have hAw := below_next hA7 (Nat.le_refl _) hbel
      by_cases hlt : e < q
      rotate_left
      · have him : ¬ (e : Int) < (q : Int) := by omega
        go_wp2
        go_ret
        exact ⟨rfl, hAw⟩
      have hlt' : (e : Int) < (q : Int) := by omega
      have he0 : (0 : Int) ≤ (e : Int) := by omega
      obtain ⟨j, D', hj24, hall, hcall⟩ := HCH.out e hlt
      obtain ⟨eb, eo, ee, s0, s1⟩ := hew e hlt
      subst ee
      have HALL : Hid (gB D' (H e) j = true) := hall
      have HCL : Hid (∀ W, ERow W (some ⟨eb, eo, none⟩) q L H → Calls Try.prog 6 #[.slice (some ⟨eb, eo, none⟩) q capE, .int .i64 (mm : Int), .int .i64 (L e)] W fun e w' => Ans W w' e j D') := hcall
      clear hall hcall
      have hewd := hew.below (Below.refl wr.heap.size wr).drew (Nat.le_refl _)
      go_wp2_with fail
      go_region_held3 (fun w' => w'.cell? ⟨gb, 0, none⟩ = some (.int .i64 (mm : Int)) ∧ w'.cell? ⟨eb, eo + e * 2, none⟩ = some (.int .i64 (L e)))
        (first | (go_split_ands; refine ⟨?_, ?_⟩ <;> exact keep_cell hb9 (Nat.le_refl _) (by assumption)) | go_keep)
        (first | (go_at_call 6; refine (HCL.out _ hewd).mono ?_; rintro e' w9 ⟨aoF, capF, rfl, hF9, hb9⟩))
      have hf9 := ans_row hF9
      have hA9 := below_next hbel.drew (Nat.le_refl _) hb9
      clear hF9 hb9 hAw hew hewd b0 b1 s0 s1
      go_wp2_with fail
      go_loopw [13, 14] (fun u v wr2 => ∃ i : Nat, i ≤ j ∧ u = .bool (gB D' (H e) i) ∧ v = .int .i64 i ∧ Below w9.heap.size w9 wr2) (fun _ v _ => j - (intOf v).toNat)
      case atStart => exact ⟨0, Nat.zero_le _, rfl, rfl, Below.refl _ _⟩
      case round =>
        obtain ⟨t, ht, rfl, rfl, hb10⟩ := hrel
        have hbelt := below_next hA9 (Nat.le_refl _) hb10
        by_cases htj : t < j
        rotate_left
        · have htj' : t = j := by omega
          subst htj'
          rw [HALL.out]
          go_wp2
          go_roundw
          case rel => exact ⟨e + 1, by omega, by go_num, hbelt⟩
          case measure => simp [intOf]; omega
        have htj' : (t : Int) < (j : Int) := by omega
        have ht0 : (0 : Int) ≤ (t : Int) := by omega
        obtain ⟨fb, fo, fe, f0⟩ := (hf9.below hb10 (Nat.le_refl _)) t htj
        obtain ⟨eb', eo', ee, s0, s1⟩ := (he7.below hbelt (Nat.le_refl _)) e hlt
        simp at ee
        obtain ⟨rfl, rfl⟩ := ee
        subst fe
        have hsucc : Hid (gB D' (H e) (t + 1) = (gB D' (H e) t || D' t == H e)) := rfl
        cases hgb : gB D' (H e) t
        all_goals
          by_cases h1 : D' t = H e
          all_goals
            go_wp2
            go_quiet (fail)
            go_wp2
            go_roundw
            case rel => exact ⟨t + 1, by omega, by rw [hsucc.out, hgb]; simp [h1], by go_num, below_drewN hb10 _⟩
            case measure => simp [intOf]; omega

set_option maxRecDepth 100000 in
theorem lawFnAbove_lifted (os : Os) (started : os.Started) (H : Type) (enc : TypeId × Value → H) :
    ReturnsInHanded {} Try.checked os 3 .any (Rows.fnAboveSpec.pre6 enc Try.prog Try.f3 Rows.fnAboveRow.domain false) (Rows.fnAboveSpec.post enc Try.prog Try.f3 false true false false) := by
  refine returnsInHanded_of_change (C := Try.checked) Try.own started (by kernel_rfl) Try.func3
    (ChangeSpec.witness6 (enc := enc) (C := Try.checked) false ⟨#[], #[.slice none 0 0], []⟩ 8 (by kernel_rfl) (by kernel_rfl) (by kernel_rfl) (by kernel_rfl)) ?_
  intro W base args ds gs before hval0 hW hcnd _
  have hval : ∀ (j : Nat) t v, Try.f3.params[j]? = some t → args[j]? = some v → Value.okWide Try.prog W .any base t v := hval0
  have hW' := hW
  obtain ⟨p, q, hA0, hV, rfl, hfz, hnd⟩ := hW
  have hA : DataW.TrodAll enc Try.prog W 0 (fun _ => true) true Try.f3.params.toList args.toList ds p := hA0
  rw [Try.params3] at hA hval
  obtain ⟨v1, vs1, d1, ds1, p1, q1, hargs, rfl, rfl, h1, r1⟩ := trodAll_cons hA
  obtain ⟨rfl, rfl, rfl⟩ := trodAll_nil r1
  obtain rfl : args = #[v1] := by cases args; simp_all
  obtain ⟨rfl, rfl⟩ := trodVars_none hV
  have k1 := h1
  have lt1 : ∀ x ∈ p1, x.block < W.heap.size := by obtain ⟨m, hm⟩ := k1; exact DataW.trod_lt m _ _ _ hm
  obtain ⟨b1, l1, c1', rfl⟩ := okWide_slice Try.underlying22 (hval 0 22 v1 rfl rfl)
  obtain ⟨f1, hf1⟩ := h1
  obtain ⟨ao2, m2, cap2, e2, hm2, hr2⟩ := open_bytes hf1
  simp [Value.cells] at e2
  obtain ⟨rfl, rfl, rfl⟩ := e2
  clear hA0 hval0
  refine (lawFnAbove_walk b1 l1 c1' hm2 W hr2).mono fun e W' ⟨he, bel⟩ => ?_
  subst he
  exact ⟨_, rfl, _, _, _, [], _, [], hW', trodAll_mk1 (shut_bool Try.underlying4 _), (trodAll_cons_mk (Below.trod Try.laidOut (by kernel_rfl) (of_decide_eq_true (by kernel_rfl)) k1 bel lt1) trodAll_mk0), rfl, bel.frame _, fun h => by cases h⟩

theorem fnAbove_holds : Rows.FnAboveSaid :=
  OpenClaim.holds_of_wide 3 Try.f3 rfl rfl rfl rfl rfl rfl rfl ⟨rfl, rfl, rfl, rfl, rfl⟩ rfl rfl rfl rfl rfl (by kernel_rfl) Try.func3 (by kernel_rfl)
    (of_decide_eq_true (by kernel_rfl)) (by unfold Func.isWrapper; first | (rw [if_pos (by decide +kernel)]; kernel_rfl) | (rw [if_neg (by decide +kernel)]; exact ⟨rfl, rfl⟩))
    (fun os started H enc _ => lawFnAbove_lifted os started H enc)
#print axioms fnAbove_holds

end Go.Proofs.Ytaddhiojahmbpab
