/-
  Proved: at every list of bytes the law FnFilled answers true, and its argument reads behind the call as it read before. No condition.
-/
import Derived.Test.YtdgnlpafmkhdjaaPack2
import Derived.Test.YtdgnlpafmkhdjaaRankSpP
import Derived.Test.YtdgnlpafmkhdjaaPack4
import Derived.Test.YtdgnlpafmkhdjaaPack6
set_option linter.unusedVariables false
set_option linter.unusedSimpArgs false
namespace Go.Proofs.Ytdgnlpafmkhdjaa
open Go.ChangeShapes Go.WideShapes Go.ChangeAt Go.RowKit Go.Deep Go.Joins
attribute [local go_sem ↓] Go.wp_at_zero Go.wp_at_succ

def fB (L H : Nat → Int) (a b : Int) : Nat → Bool
  | 0 => false
  | k + 1 => fB L H a b k || (L k == a && H k == b)
theorem fB_has {L H : Nat → Int} {a b : Int} {i : Nat} (h1 : L i = a) (h2 : H i = b) : ∀ n, i < n → fB L H a b n = true
  | 0, h => by omega
  | n + 1, h => by
    by_cases e : i = n
    · subst e; simp [fB, h1, h2]
    · simp [fB, fB_has h1 h2 n (by omega)]
theorem eans_row {W w' : World} {ao : Option Addr} {m : Nat} {L H : Nat → Int} (h : 0 < m → ∃ g, ao = some ⟨g, 0, none⟩ ∧ W.heap.size ≤ g ∧ EHas w' g m (er L H)) : ERow w' ao m L H := fun k hk => by
  obtain ⟨g, e, _, hI⟩ := h (by omega)
  subst e
  exact hI.row k hk

set_option maxRecDepth 100000 in
set_option maxHeartbeats 16000000 in
theorem lawFnFilled_walk (ao : Option Addr) (n cap : Nat) (hn : n ≤ maxLen) (w : World) (hr : ByRow w w.heap.size ao n) :
    Calls Try.prog 6 #[.slice ao n cap] w fun e w' => e = .returned (.bool true) ∧ Below w.heap.size w w' := by
  unfold maxLen at hn
  by_cases hbig : 4096 < n
  · have hd : decide (4096 < n) = true := by simp [hbig]
    go_enter Try.func6, Try.ntmps6
    go_wp2_with (go_at_call 7; refine (big_any ao n cap (by omega) _).mono ?_; rintro e wq ⟨rfl, rfl⟩)
    go_ret
    exact ⟨rfl, Below.refl _ _⟩
  have hd : decide (4096 < n) = false := by simp [hbig]
  have hn' : n ≤ 4096 := by omega
  go_enter Try.func6, Try.ntmps6
  go_wp2_with fail
  refine (big_any ao n cap (by omega) _).mono ?_
  rintro e wq ⟨rfl, hq⟩
  have hq' := hq.symm
  subst hq'
  clear hq
  rw [hd]
  clear hd
  go_wp2_with fail
  refine (drawFill_any ao n cap hn' _ hr).mono ?_
  rintro e w1 ⟨p, go, k, gc, po, m, pc, P, rfl, hk, hm, ⟨F, T, G, hrow1⟩, hP1, hb1⟩
  have hal1 := (Below.refl w1.heap.size w1).alloc (Nat.le_refl _) (.cells #[.int .i64 p, .slice go k gc] 26)
  have hA1 := below_next hb1 (Nat.le_refl _) hal1
  have hrw1 := hrow1.alloc (.cells #[.int .i64 p, .slice go k gc] 26)
  have hp1 := hP1.alloc (.cells #[.int .i64 p, .slice go k gc] 26)
  have hk' : k ≤ 1048576 := by omega
  have hm' : m ≤ 1048576 := by omega
  obtain ⟨q, hq⟩ : ∃ q, lenF p k F T G m P = q := ⟨_, rfl⟩
  obtain ⟨L, hL⟩ : ∃ L, Lf (lstF p k F T P) = L := ⟨_, rfl⟩
  obtain ⟨H, hH⟩ : ∃ H, Hf (lstF p k F T P) = H := ⟨_, rfl⟩
  have hq1000 : q ≤ 1000 := by rw [← hq]; exact lenF_le p k F T G m P
  have hqq : q ≤ 1048576 := by omega
  have hio := fun W hr' hp' => implFill_room p go k gc F T G po m pc P hk' hm' W hr' hp'
  have hso := fun W hr' hp' => specFill_any p go k gc F T G po m pc P hk' hm' W hr' hp'
  rw [hq, hL, hH] at hio hso
  have HIO : Hid (∀ W, Row W go k F T G → IRow W po m P → Calls Try.prog 34 #[.agg #[.int .i64 p, .slice go k gc], .slice po m pc] W fun e w' => ERoom W w' e q L H) := hio
  have HSO : Hid (∀ W, Row W go k F T G → IRow W po m P → Calls Try.prog 36 #[.agg #[.int .i64 p, .slice go k gc], .slice po m pc] W fun e w' => EAns W w' e q L H) := hso
  have HQ : Hid (lenF p k F T G m P = q) := hq
  have HL : Hid (Lf (lstF p k F T P) = L) := hL
  have HH : Hid (Hf (lstF p k F T P) = H) := hH
  clear hio hso hq hL hH hrow1 hP1 hal1 hb1
  have g0 : (w1.alloc (.cells #[.int .i64 p, .slice go k gc] 26)).cell? ⟨w1.heap.size, 0, none⟩ = some (.int .i64 p) := by simp [go_sem]
  have g1 : (w1.alloc (.cells #[.int .i64 p, .slice go k gc] 26)).cell? ⟨w1.heap.size, 1, none⟩ = some (.slice go k gc) := by simp [go_sem]
  go_wp2_with fail
  refine (HIO.out _ hrw1 hp1).mono ?_
  rintro e w2 ⟨aoE, capE, rfl, hcapE, hE2, hb2⟩
  have hA2 := below_next hA1 (Nat.le_refl _) hb2
  have he2 := eans_row hE2
  have hrw2 := hrw1.below hb2 (Nat.le_refl _)
  have hp2 := hp1.below hb2 (Nat.le_refl _)
  have c0 := keep_cell hb2 (Nat.le_refl _) g0
  have c1 := keep_cell hb2 (Nat.le_refl _) g1
  clear hE2 hb2 hrw1 hp1 g0 g1 hA1
  obtain ⟨gB, hgB⟩ : ∃ gB, w1.heap.size = gB := ⟨_, rfl⟩
  rw [hgB] at c0 c1 ⊢
  clear hgB
  go_wp2_with fail
  refine (HSO.out _ hrw2 hp2).mono ?_
  rintro e w3 ⟨aoW, capW, rfl, hW3, hb3⟩
  have hw3 := eans_row hW3
  have he3 := he2.below hb3 (Nat.le_refl _)
  have hrw3 := hrw2.below hb3 (Nat.le_refl _)
  have hp3 := hp2.below hb3 (Nat.le_refl _)
  have hA3 := below_next hA2 (Nat.le_refl _) hb3
  replace c0 := keep_cell hb3 (Nat.le_refl _) c0
  replace c1 := keep_cell hb3 (Nat.le_refl _) c1
  clear hW3 hb3 hA2 he2 hrw2 hp2
  go_wp2_with fail
  refine (likeEdges_same aoE aoW q capE capW L H hqq _ he3 hw3).mono ?_
  rintro e w4 ⟨rfl, hb4⟩
  have he4 := he3.below hb4 (Nat.le_refl _)
  have hrw4 := hrw3.below hb4 (Nat.le_refl _)
  have hp4 := hp3.below hb4 (Nat.le_refl _)
  have hA4 := below_next hA3 (Nat.le_refl _) hb4
  replace c0 := keep_cell hb4 (Nat.le_refl _) c0
  replace c1 := keep_cell hb4 (Nat.le_refl _) c1
  clear hb4 hA3 he3 hrw3 hw3 hp3
  go_wp2_with fail
  refine (drawChordal_any ao n cap hn' _ (hr.up hA4)).mono ?_
  rintro e w5 ⟨g, ec, l, x, rfl, hl, hroom, hrow5, hb5⟩
  have hA5 := below_next hA4 (Nat.le_refl _) hb5
  have he5 := he4.below hb5 (Nat.le_refl _)
  have hrw5 := hrw4.below hb5 (Nat.le_refl _)
  have hp5 := hp4.below hb5 (Nat.le_refl _)
  replace c0 := keep_cell hb5 (Nat.le_refl _) c0
  replace c1 := keep_cell hb5 (Nat.le_refl _) c1
  clear hA4 he4 hrw4 hp4 hb5
  obtain ⟨N, hN⟩ : ∃ N, l.length = N := ⟨_, rfl⟩
  rw [hN] at hl hroom hrow5 ⊢
  have hN' : N ≤ 1048576 := by omega
  obtain ⟨bc, hbc⟩ : ∃ bc : Bool, bc = true ↔ Chd x N (Lf l) (Hf l) := by
    rcases Classical.em (Chd x N (Lf l) (Hf l)) with h | h
    · exact ⟨true, by simp [h]⟩
    · exact ⟨false, by simp [h]⟩
  obtain ⟨m3, hm3⟩ : ∃ m3, lenP x N (Lf l) (Hf l) = m3 := ⟨_, rfl⟩
  obtain ⟨R2, hR2⟩ : ∃ R2, sp (Lf l) (Hf l) N N = R2 := ⟨_, rfl⟩
  have hm3' : m3 ≤ 24 := by rw [← hm3]; exact lenP_le x N (Lf l) (Hf l)
  have HI1 : Hid (∀ W, ERow W (some ⟨g, 0, none⟩) N (Lf l) (Hf l) → Calls Try.prog 38 #[.slice (some ⟨g, 0, none⟩) N ec, .int .i64 x] W fun e w' => e = .returned (.bool bc) ∧ Below W.heap.size W w') := fun W h => (implChordal_any x _ N ec _ _ hN' hroom W h).mono fun e w' ⟨⟨v, h1, h2⟩, h3⟩ => ⟨by rw [h1]; congr 2; exact Bool.eq_iff_iff.2 (h2.trans hbc.symm), h3⟩
  have HS1 : Hid (∀ W, ERow W (some ⟨g, 0, none⟩) N (Lf l) (Hf l) → Calls Try.prog 39 #[.slice (some ⟨g, 0, none⟩) N ec, .int .i64 x] W fun e w' => e = .returned (.bool bc) ∧ Below W.heap.size W w') := fun W h => (specChordal_any x _ N ec _ _ hN' W h).mono fun e w' ⟨⟨v, h1, h2⟩, h3⟩ => ⟨by rw [h1]; congr 2; exact Bool.eq_iff_iff.2 (h2.trans hbc.symm), h3⟩
  have hi2 := fun W hr' => implParents_any x (some ⟨g, 0, none⟩) N ec (Lf l) (Hf l) hN' W hr'
  have hs2 := fun W hr' => specParents_any x (some ⟨g, 0, none⟩) N ec (Lf l) (Hf l) hN' W hr'
  rw [hm3, hR2] at hi2 hs2
  have HI2 : Hid (∀ W, ERow W (some ⟨g, 0, none⟩) N (Lf l) (Hf l) → Calls Try.prog 40 #[.slice (some ⟨g, 0, none⟩) N ec, .int .i64 x] W fun e w' => Ans W w' e m3 R2) := hi2
  have HS2 : Hid (∀ W, ERow W (some ⟨g, 0, none⟩) N (Lf l) (Hf l) → Calls Try.prog 41 #[.slice (some ⟨g, 0, none⟩) N ec, .int .i64 x] W fun e w' => Ans W w' e m3 R2) := hs2
  clear hi2 hs2 hbc hm3 hR2 hN
  have hm3'' : m3 ≤ 1048576 := by omega
  go_wp2_with fail
  have hrd := hrow5.below (Below.refl w5.heap.size w5).drew (Nat.le_refl _)
  have hbb : (bc != bc) = false := by simp
  generalize Lf l = Ll at hrow5 hrd HI1 HS1 HI2 HS2
  generalize Hf l = Hl at hrow5 hrd HI1 HS1 HI2 HS2
  clear hrd
  refine (HI1.out _ hrow5).mono ?_
  rintro e w7 ⟨rfl, hb7⟩
  have hq7 := hrow5.below hb7 (Nat.le_refl _)
  go_wp2_with fail
  refine (HS1.out _ hq7).mono ?_
  rintro e w8 ⟨rfl, hb8⟩
  have hq8 := hq7.below hb8 (Nat.le_refl _)
  go_wp2_with fail
  refine (HI2.out _ hq8).mono ?_
  rintro e w9 ⟨aoR, capR, rfl, hR9, hb9⟩
  have hq9 := hq8.below hb9 (Nat.le_refl _)
  have hr9 := ans_row hR9
  go_wp2_with fail
  refine (HS2.out _ hq9).mono ?_
  rintro e w10 ⟨aoS, capS, rfl, hS10, hb10⟩
  have hs10 := ans_row hS10
  have hr10 := hr9.below hb10 (Nat.le_refl _)
  go_wp2_with fail
  refine (likeInts_same aoR aoS m3 capR capS R2 hm3'' _ hr10 hs10).mono ?_
  rintro e w11 ⟨rfl, hb11⟩
  have hBa := below_next (below_next (below_next (below_next hb7 (Nat.le_refl _) hb8) (Nat.le_refl _) hb9) (Nat.le_refl _) hb10) (Nat.le_refl _) hb11
  have hA11 := below_next hA5 (Nat.le_refl _) hBa
  have he11 := he5.below hBa (Nat.le_refl _)
  have hrw11 := hrw5.below hBa (Nat.le_refl _)
  have hp11 := hp5.below hBa (Nat.le_refl _)
  replace c0 := keep_cell hBa (Nat.le_refl _) c0
  replace c1 := keep_cell hBa (Nat.le_refl _) c1
  clear hrow5 hq7 hq8 hR9 hq9 hr9 hS10 hs10 hr10 hb7 hb8 hb9 hb10 hb11 hBa hA5 he5 hrw5 hp5 HI1 HS1 HI2 HS2 hbb HIO HSO
  obtain ⟨bo, hbo⟩ : ∃ bo, ordB p k F T G m P = bo := ⟨_, rfl⟩
  have HOK : Hid (∀ W, Row W go k F T G → IRow W po m P → Calls Try.prog 30 #[.agg #[.int .i64 p, .slice go k gc], .slice po m pc] W fun e w' => e = .returned (.bool bo) ∧ Below W.heap.size W w') := fun W h1 h2 => by
    have := specOrderOk_any p go k gc F T G po m pc P hk' hm' W h1 h2
    rw [hbo] at this
    exact this
  go_wp2_with fail
  refine (HOK.out _ hrw11 hp11).mono ?_
  rintro e w12 ⟨rfl, hb12⟩
  have hA12 := below_next hA11 (Nat.le_refl _) hb12
  have he12 := he11.below hb12 (Nat.le_refl _)
  have hrw12 := hrw11.below hb12 (Nat.le_refl _)
  have hp12 := hp11.below hb12 (Nat.le_refl _)
  replace c0 := keep_cell hb12 (Nat.le_refl _) c0
  replace c1 := keep_cell hb12 (Nat.le_refl _) c1
  clear hA11 he11 hrw11 hp11 hb12 HOK
  cases bo
  · have hq0 : q = 0 := by rw [← HQ.out, lenF, hbo]; rfl
    subst hq0
    go_wp2
    go_ret
    exact ⟨rfl, hA12⟩
  obtain ⟨hmp, hgr, ⟨hm1, hm2⟩, heach⟩ := ordB_parts hbo
  subst hmp
  obtain ⟨_, hk100, hF, hT, hFT⟩ := ok_arcs hgr
  have hqL : q = (lstF (m : Int) k F T P).length := by rw [← HQ.out, lenF, hbo]; rfl
  have hlst : lstF (m : Int) k F T P = allS (nbA F T k) P m m := by simp [lstF]
  have hchd := fill_ok (B := nbA F T k) hm1 hm2 heach
  rw [← hlst, ← hqL, HL.out, HH.out] at hchd
  have hfair : Fair (nbA F T k) := fair_nbA k (fun j hj => by have := hF j hj; have := hT j hj; have := hFT j hj; omega)
  have hokR : okR m P = true := by simp [okR, heach]; omega
  have hlen : lenR m P = m := by simp [lenR, hokR]
  obtain ⟨R, hR⟩ : ∃ R, rk P (-1) m = R := ⟨_, rfl⟩
  have HARC : Hid (∀ i, i < k → ∃ f t x y : Nat, F i = (f : Int) ∧ T i = (t : Int) ∧ f < m ∧ t < m ∧ R f = (x : Int) ∧ R t = (y : Int) ∧ x ≠ y ∧ fB L H (min (x : Int) y) (max (x : Int) y) q = true) := fun i hi => by
    have h1 := hF i hi
    have h2 := hT i hi
    have h3 := hFT i hi
    obtain ⟨x, hx, ex, rx⟩ := rk_of heach (-1) (q := (F i).toNat) (by omega)
    obtain ⟨y, hy, ey, ry⟩ := rk_of heach (-1) (q := (T i).toNat) (by omega)
    have hin := fill_arc heach hfair hi h1 h2 h3 hx hy (by omega) (by omega)
    rw [← hlst] at hin
    obtain ⟨j, hj, e1, e2⟩ := hs_mem.2 hin
    rw [HL.out] at e1
    rw [HH.out] at e2
    rw [hR] at rx ry
    exact ⟨(F i).toNat, (T i).toNat, x, y, by omega, by omega, by omega, by omega, rx, ry, fun e => by subst e; omega, fB_has e1 e2 q (by omega)⟩
  have HCH : Hid (∀ W, ERow W aoE q L H → Calls Try.prog 38 #[.slice aoE q capE, .int .i64 (m : Int)] W fun e w' => e = .returned (.bool true) ∧ Below W.heap.size W w') := fun W h => (implChordal_any (m : Int) aoE q capE L H hqq hcapE W h).mono fun e w' ⟨⟨v, h1, h2⟩, h3⟩ => ⟨by rw [h1, h2.2 hchd], h3⟩
  have HRK : Hid (∀ W, IRow W po m P → Calls Try.prog 32 #[.slice po m pc] W fun e w' => Ans W w' e m R) := fun W h => by
    have := specRanks_any po m pc P hm' W h
    rw [hlen, hR] at this
    exact this
  clear hqL hlst hchd hfair hokR hlen hR hF hT hFT heach hgr hbo HQ HL HH
  go_wp2_with fail
  refine (HRK.out _ hp12).mono ?_
  rintro e w13 ⟨aoQ, capQ, rfl, hQ, hb13⟩
  have hrQ := ans_row hQ
  have hA13 := below_next hA12 (Nat.le_refl _) hb13
  have he13 := he12.below hb13 (Nat.le_refl _)
  have hrw13 := hrw12.below hb13 (Nat.le_refl _)
  replace c0 := keep_cell hb13 (Nat.le_refl _) c0
  replace c1 := keep_cell hb13 (Nat.le_refl _) c1
  clear hA12 he12 hrw12 hp12 hb13 hQ HRK
  go_wp2_with fail
  go_loopw [9] (fun x wr => ∃ i : Nat, i ≤ k ∧ x = .int .i64 i ∧ Below w13.heap.size w13 wr) (fun x _ => k - (intOf x).toNat)
  case atStart => exact ⟨0, Nat.zero_le _, rfl, Below.refl _ _⟩
  case round =>
    obtain ⟨i, hi, rfl, hbel⟩ := hrel
    have b0 := keep_cell hbel (Nat.le_refl _) c0
    have b1 := keep_cell hbel (Nat.le_refl _) c1
    have hew := he13.below hbel (Nat.le_refl _)
    have hrq := hrQ.below hbel (Nat.le_refl _)
    have hrww := hrw13.below hbel (Nat.le_refl _)
    have hAw := below_next hA13 (Nat.le_refl _) hbel
    by_cases hlt : i < k
    rotate_left
    · have him : ¬ (i : Int) < (k : Int) := by omega
      go_wp2_with fail
      refine (HCH.out _ hew).mono ?_
      rintro e w14 ⟨rfl, hb14⟩
      go_wp2
      go_ret
      exact ⟨rfl, below_next hAw (Nat.le_refl _) hb14⟩
    have hlt' : (i : Int) < (k : Int) := by omega
    have hi0 : (0 : Int) ≤ (i : Int) := by omega
    obtain ⟨f, t, x, y, hf, ht, hfm, htm, hRx, hRy, hxy, hall⟩ := HARC.out i hlt
    obtain ⟨b, o, e1, a0, a1, _⟩ := hrww i hlt
    obtain ⟨b2, o2, e2, d0⟩ := hrq f hfm
    obtain ⟨b3, o3, e3, d1⟩ := hrq t htm
    subst e1 e2
    simp at e3
    obtain ⟨rfl, rfl⟩ := e3
    rw [hf] at a0
    rw [ht] at a1
    rw [hRx] at d0
    rw [hRy] at d1
    have hfm' : (f : Int) < (m : Int) := by omega
    have htm' : (t : Int) < (m : Int) := by omega
    have HALL : Hid (fB L H (min (x : Int) y) (max (x : Int) y) q = true) := hall
    clear hall hew hrq hrww hAw hRx hRy hf ht
    by_cases hle : y < x
    · have hle' : (y : Int) < (x : Int) := by omega
      have hmin : Hid (min (x : Int) y = (y : Int)) := (show _ = _ by omega)
      have hmax : Hid (max (x : Int) y = (x : Int)) := (show _ = _ by omega)
      have hall : fB L H (y : Int) (x : Int) q = true := by have := HALL.out; rw [hmin.out, hmax.out] at this; exact this
      have HA2 : Hid (fB L H (y : Int) (x : Int) q = true) := hall
      clear hall hmin hmax HALL
      go_wp2_with fail
      go_loopw [13, 14] (fun u v wr2 => ∃ j : Nat, j ≤ q ∧ u = .bool (fB L H (y : Int) (x : Int) j) ∧ v = .int .i64 j ∧ Below w13.heap.size w13 wr2) (fun _ v _ => q - (intOf v).toNat)
      case atStart => exact ⟨0, Nat.zero_le _, rfl, rfl, hbel⟩
      case round =>
        clear hbel b0 b1 a0 a1 d0 d1
        obtain ⟨j, hj, rfl, rfl, hbel⟩ := hrel
        by_cases hjk : j < q
        rotate_left
        · have hjk' : j = q := by omega
          subst hjk'
          rw [HA2.out]
          go_wp2
          go_roundw
          case rel => exact ⟨i + 1, by omega, by go_num, hbel⟩
          case measure => simp [intOf]; omega
        have hjk' : (j : Int) < (q : Int) := by omega
        have hj0 : (0 : Int) ≤ (j : Int) := by omega
        obtain ⟨eb, eo, ee, s0, s1⟩ := (he13.below hbel (Nat.le_refl _)) j hjk
        subst ee
        have hsucc : Hid (fB L H (y : Int) (x : Int) (j + 1) = (fB L H (y : Int) (x : Int) j || (L j == (y : Int) && H j == (x : Int)))) := rfl
        cases hfb : fB L H (y : Int) (x : Int) j
        all_goals
          by_cases h1 : L j = (y : Int)
          all_goals
            by_cases h2 : H j = (x : Int)
            all_goals
              go_wp2
              skip
              go_roundw
              case rel => exact ⟨j + 1, by omega, by rw [hsucc.out, hfb]; simp [h1, h2], by go_num, hbel⟩
              case measure => simp [intOf]; omega
    · have hle' : ¬ (y : Int) < (x : Int) := by omega
      have hmin : Hid (min (x : Int) y = (x : Int)) := (show _ = _ by omega)
      have hmax : Hid (max (x : Int) y = (y : Int)) := (show _ = _ by omega)
      have hall : fB L H (x : Int) (y : Int) q = true := by have := HALL.out; rw [hmin.out, hmax.out] at this; exact this
      have HA2 : Hid (fB L H (x : Int) (y : Int) q = true) := hall
      clear hall hmin hmax HALL
      go_wp2_with fail
      go_loopw [13, 14] (fun u v wr2 => ∃ j : Nat, j ≤ q ∧ u = .bool (fB L H (x : Int) (y : Int) j) ∧ v = .int .i64 j ∧ Below w13.heap.size w13 wr2) (fun _ v _ => q - (intOf v).toNat)
      case atStart => exact ⟨0, Nat.zero_le _, rfl, rfl, hbel⟩
      case round =>
        clear hbel b0 b1 a0 a1 d0 d1
        obtain ⟨j, hj, rfl, rfl, hbel⟩ := hrel
        by_cases hjk : j < q
        rotate_left
        · have hjk' : j = q := by omega
          subst hjk'
          rw [HA2.out]
          go_wp2
          go_roundw
          case rel => exact ⟨i + 1, by omega, by go_num, hbel⟩
          case measure => simp [intOf]; omega
        have hjk' : (j : Int) < (q : Int) := by omega
        have hj0 : (0 : Int) ≤ (j : Int) := by omega
        obtain ⟨eb, eo, ee, s0, s1⟩ := (he13.below hbel (Nat.le_refl _)) j hjk
        subst ee
        have hsucc : Hid (fB L H (x : Int) (y : Int) (j + 1) = (fB L H (x : Int) (y : Int) j || (L j == (x : Int) && H j == (y : Int)))) := rfl
        cases hfb : fB L H (x : Int) (y : Int) j
        all_goals
          by_cases h1 : L j = (x : Int)
          all_goals
            by_cases h2 : H j = (y : Int)
            all_goals
              go_wp2
              skip
              go_roundw
              case rel => exact ⟨j + 1, by omega, by rw [hsucc.out, hfb]; simp [h1, h2], by go_num, hbel⟩
              case measure => simp [intOf]; omega

set_option maxRecDepth 100000 in
theorem lawFnFilled_lifted (os : Os) (started : os.Started) (H : Type) (enc : TypeId × Value → H) :
    ReturnsInHanded {} Try.checked os 6 .any (Rows.fnFilledSpec.pre6 enc Try.prog Try.f6 Rows.fnFilledRow.domain false) (Rows.fnFilledSpec.post enc Try.prog Try.f6 false true false false) := by
  refine returnsInHanded_of_change (C := Try.checked) Try.own started (by kernel_rfl) Try.func6
    (ChangeSpec.witness6 (enc := enc) (C := Try.checked) false ⟨#[], #[.slice none 0 0], []⟩ 8 (by kernel_rfl) (by kernel_rfl) (by kernel_rfl) (by kernel_rfl)) ?_
  intro W base args ds gs before hval0 hW hcnd _
  have hval : ∀ (j : Nat) t v, Try.f6.params[j]? = some t → args[j]? = some v → Value.okWide Try.prog W .any base t v := hval0
  have hW' := hW
  obtain ⟨p, q, hA0, hV, rfl, hfz, hnd⟩ := hW
  have hA : DataW.TrodAll enc Try.prog W 0 (fun _ => true) true Try.f6.params.toList args.toList ds p := hA0
  rw [Try.params6] at hA hval
  obtain ⟨v1, vs1, d1, ds1, p1, q1, hargs, rfl, rfl, h1, r1⟩ := trodAll_cons hA
  obtain ⟨rfl, rfl, rfl⟩ := trodAll_nil r1
  obtain rfl : args = #[v1] := by cases args; simp_all
  obtain ⟨rfl, rfl⟩ := trodVars_none hV
  have k1 := h1
  have lt1 : ∀ x ∈ p1, x.block < W.heap.size := by obtain ⟨m, hm⟩ := k1; exact DataW.trod_lt m _ _ _ hm
  obtain ⟨b1, l1, c1', rfl⟩ := okWide_slice Try.underlying22 (hval 0 22 v1 rfl rfl)
  obtain ⟨f1, hf1⟩ := h1
  obtain ⟨ao2, m2, cap2, e2, hm2, hr2⟩ := open_bytes hf1
  simp [Value.cells] at e2
  obtain ⟨rfl, rfl, rfl⟩ := e2
  clear hA0 hval0
  refine (lawFnFilled_walk b1 l1 c1' hm2 W hr2).mono fun e W' ⟨he, bel⟩ => ?_
  subst he
  exact ⟨_, rfl, _, _, _, [], _, [], hW', trodAll_mk1 (shut_bool Try.underlying4 _), (trodAll_cons_mk (Below.trod Try.laidOut (by kernel_rfl) (of_decide_eq_true (by kernel_rfl)) k1 bel lt1) trodAll_mk0), rfl, bel.frame _, fun h => by cases h⟩

theorem fnFilled_holds : Rows.FnFilledSaid :=
  OpenClaim.holds_of_wide 6 Try.f6 rfl rfl rfl rfl rfl rfl rfl ⟨rfl, rfl, rfl, rfl, rfl⟩ rfl rfl rfl rfl rfl (by kernel_rfl) Try.func6 (by kernel_rfl)
    (of_decide_eq_true (by kernel_rfl)) (by unfold Func.isWrapper; first | (rw [if_pos (by decide +kernel)]; kernel_rfl) | (rw [if_neg (by decide +kernel)]; exact ⟨rfl, rfl⟩))
    (fun os started H enc _ => lawFnFilled_lifted os started H enc)
#print axioms fnFilled_holds

end Go.Proofs.Ytdgnlpafmkhdjaa
