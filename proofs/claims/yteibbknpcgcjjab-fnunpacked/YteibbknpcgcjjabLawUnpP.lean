/-
  Proved: at every code the law FnUnpacked answers true, and its argument reads behind the call as it read before. No condition.
-/
import Derived.Test.YteibbknpcgcjjabDrawUnP
import Derived.Test.YteibbknpcgcjjabUnQP
import Derived.Test.YteibbknpcgcjjabUnOP
import Derived.Test.YteibbknpcgcjjabPack11
import Derived.Test.YteibbknpcgcjjabPack12
set_option linter.unusedVariables false
set_option linter.unusedSimpArgs false
namespace Go.Proofs.Yteibbknpcgcjjab
open Go.ChangeShapes Go.WideShapes Go.ChangeAt Go.RowKit Go.Deep Go.Joins
attribute [local go_sem ↓] Go.wp_at_zero Go.wp_at_succ

theorem LAns.rows {w w' : World} {e : Ending} {l : List Int} (h : LAns w w' e l) : ∃ ao cap, e = .returned (.slice ao l.length cap) ∧ (0 < l.length → l.length ≤ cap) ∧ IRow w' ao l.length (fun j => l.getD j 0) ∧ Below w.heap.size w w' := by
  obtain ⟨ao, cap, e1, h2, h3⟩ := h
  refine ⟨ao, cap, e1, fun h0 => ?_, fun i hi => ?_, h3⟩
  · obtain ⟨g, rfl, _, ho⟩ := h2 h0
    exact ho.cap
  · obtain ⟨g, rfl, _, ho⟩ := h2 (by omega)
    obtain ⟨g', e', _, _, hc⟩ := ho.cells (by omega)
    cases e'
    refine ⟨g, 0, rfl, ?_⟩
    have := hc i (l.getD i 0) (by rw [List.getD_eq_getElem?_getD, List.getElem?_eq_getElem hi]; rfl)
    simpa using this
/-- What the law asks of a way that is answered. -/
structure UnH (p : Int) (n : Nat) (F T G : Nat → Int) (k : Nat) (P : Nat → Int) (m : Nat) (L H U V : Nat → Int) (a c : Int) (up : Bool) (N : Nat) (X : Nat → Int) (je : Nat) : Prop where
  len : 2 ≤ N ∧ N ≤ 40
  fits : lenOf p n F T G N X = if up = true then U je else V je
  each : ∀ i, i < N → 0 ≤ X i ∧ X i < (k : Int)
  inner : ∀ i, 1 ≤ i → i + 1 < N → rk P (-1) k (X i).toNat < a
  first : rk P (-1) k (X 0).toNat = if up = true then a else c
  last : rk P (-1) k (X (N - 1)).toNat = if up = true then c else a
  jel : je < m ∧ L je = a ∧ H je = c
  once : ∀ j, j < m → L j = a → H j = c → j = je
  okr : okR k P = true
theorem un_h {p : Int} {n : Nat} {F T G : Nat → Int} {k : Nat} {P : Nat → Int} {m : Nat} {L H : Nat → Int} {u : Nat} {U : Nat → Int} {v : Nat} {V : Nat → Int} {a c : Int} {up : Bool} (h : UnY p n F T G k P m L H u U v V a c up) : u = m ∧ v = m ∧ ∃ je, UnH p n F T G k P m L H U V a c up (unL p n F T G k P m L H u U v V a c up).length (fun j => (unL p n F T G k P m L H u U v V a c up).getD j 0) je := by
  have hf := un_facts h
  rw [unL_yes h]
  obtain ⟨⟨hH, hsU, hsV⟩, hs, hne⟩ := h
  have ho := hH.1
  obtain ⟨hkp, hg, ⟨k1, k24⟩, he⟩ := ordB_parts ho
  have D := gd_can ho
  obtain ⟨el, eLH⟩ := hok_len hH
  have hat := fnd_at _ (hsB_iff.1 hs)
  obtain ⟨qe, hqe⟩ := D.q
  have hrk : ∀ r, r < k → rk P (-1) k (P r).toNat = (r : Int) := fun r hr => rk_is (-1) k he r hr
  have hin : ∀ r, r < k → 0 ≤ P r ∧ P r < (k : Int) := fun r hr => (each_in _ he r hr).1
  have h0 := hf.a0
  refine ⟨hsU.1.symm, hsV.1.symm, fnd (Lf (lstF p n F T P)) (Hf (lstF p n F T P)) a c (lstF p n F T P).length, ?_⟩
  rw [← el] at hat hqe ⊢
  refine ⟨hf.len, ?_, fun i hi => ?_, fun i h1 h2 => ?_, ?_, ?_, ⟨hat.1, ?_, ?_⟩, fun j hj h1 h2 => ?_, ?_⟩
  · rw [hf.fits]
    unfold Net.wt
    have ha : ((a.toNat : Nat) : Int) = a := by omega
    have hc : ((c.toNat : Nat) : Int) = c := by omega
    split
    · show (cusT p n F T G P).1 (fnd _ _ ((a.toNat : Nat) : Int) ((c.toNat : Nat) : Int) _) = _
      rw [ha, hc, ← el]
      exact hsU.2 _ hat.1
    · show (cusT p n F T G P).2 (fnd _ _ ((a.toNat : Nat) : Int) ((c.toNat : Nat) : Int) _) = _
      rw [ha, hc, ← el]
      exact hsV.2 _ hat.1
  · obtain ⟨r, hr, e⟩ := hf.each i hi
    simp only [e]
    exact hin r hr
  · obtain ⟨r, hr, e⟩ := hf.inner i h1 h2
    simp only [e]
    rw [hrk r (by omega)]
    exact hr
  · simp only [hf.first]
    rw [hrk _ (by unfold frR; split <;> omega)]
    unfold frR
    split <;> omega
  · simp only [hf.last]
    rw [hrk _ (by unfold toR; split <;> omega)]
    unfold toR
    split <;> omega
  · rw [(eLH _ hat.1).1]; exact hat.2.1
  · rw [(eLH _ hat.1).2]; exact hat.2.2
  · refine (fnd_is hqe hj ?_ ?_).symm
    · rw [← (eLH j hj).1]; exact h1
    · rw [← (eLH j hj).2]; exact h2
  · simp [okR, he]
    omega

set_option maxRecDepth 100000 in
set_option maxHeartbeats 16000000 in
theorem lawFnUnpacked_walk (ao : Option Addr) (n cap : Nat) (hn : n ≤ maxLen) (w : World) (hr : ByRow w w.heap.size ao n) :
    Calls Try.prog 6 #[.slice ao n cap] w fun e w' => e = .returned (.bool true) ∧ Below w.heap.size w w' := by
  unfold maxLen at hn
  by_cases hbig : 4096 < n
  · have hd : decide (4096 < n) = true := by simp [hbig]
    go_enter Try.func6, Try.ntmps6
    go_wp2_with fail
    refine (big_any ao n cap (by omega) _).mono ?_
    rw [hd]
    rintro e w1 ⟨rfl, hq⟩
    have hq' := hq.symm
    subst hq'
    go_wp2
    go_ret
    exact ⟨rfl, Below.refl _ _⟩
  have hd : decide (4096 < n) = false := by simp; omega
  go_enter Try.func6, Try.ntmps6
  go_wp2_with fail
  refine (big_any ao n cap (by omega) _).mono ?_
  rw [hd]
  rintro e w1 ⟨rfl, hq⟩
  have hq' := hq.symm
  subst hq'
  clear hq
  go_wp2_with fail
  refine (drawUnpack_any ao n cap (by omega) _ hr).mono ?_
  rintro e w2 ⟨p, go, k, gc, po, m, pc, P, eo, q, ec, L, H, uo, u, uc, U, vo, v, vc, V, x, y, up, rfl, ⟨hk, hm, hq, hec, hu, hv⟩, ⟨wx, wy⟩, hD, hB⟩
  obtain ⟨F, T, G, hR, _⟩ := hD.arcs.wft
  have hP := hD.ord
  have hE := hD.edg
  have hU := hD.up
  have hV := hD.dn
  clear hD
  have ha := (((Below.refl w2.heap.size w2).alloc (Nat.le_refl _) (.cells #[.int .i64 p, .slice go k gc] 32)).alloc (by simp) (.cells #[.slice po m pc, .slice eo q ec] 40)).alloc (by simp; omega) (.cells #[.slice uo u uc, .slice vo v vc] 42)
  have c0 : (((w2.alloc (.cells #[.int .i64 p, .slice go k gc] 32)).alloc (.cells #[.slice po m pc, .slice eo q ec] 40)).alloc (.cells #[.slice uo u uc, .slice vo v vc] 42)).cell? ⟨w2.heap.size, 0, none⟩ = some (.int .i64 p) := by simp [go_sem]
  have c1 : (((w2.alloc (.cells #[.int .i64 p, .slice go k gc] 32)).alloc (.cells #[.slice po m pc, .slice eo q ec] 40)).alloc (.cells #[.slice uo u uc, .slice vo v vc] 42)).cell? ⟨w2.heap.size, 1, none⟩ = some (.slice go k gc) := by simp [go_sem]
  have c2 : (((w2.alloc (.cells #[.int .i64 p, .slice go k gc] 32)).alloc (.cells #[.slice po m pc, .slice eo q ec] 40)).alloc (.cells #[.slice uo u uc, .slice vo v vc] 42)).cell? ⟨w2.heap.size + 1, 0, none⟩ = some (.slice po m pc) := by simp [go_sem]
  have c3 : (((w2.alloc (.cells #[.int .i64 p, .slice go k gc] 32)).alloc (.cells #[.slice po m pc, .slice eo q ec] 40)).alloc (.cells #[.slice uo u uc, .slice vo v vc] 42)).cell? ⟨w2.heap.size + 1, 1, none⟩ = some (.slice eo q ec) := by simp [go_sem]
  have c4 : (((w2.alloc (.cells #[.int .i64 p, .slice go k gc] 32)).alloc (.cells #[.slice po m pc, .slice eo q ec] 40)).alloc (.cells #[.slice uo u uc, .slice vo v vc] 42)).cell? ⟨w2.heap.size + 1 + 1, 0, none⟩ = some (.slice uo u uc) := by simp [go_sem]
  have c5 : (((w2.alloc (.cells #[.int .i64 p, .slice go k gc] 32)).alloc (.cells #[.slice po m pc, .slice eo q ec] 40)).alloc (.cells #[.slice uo u uc, .slice vo v vc] 42)).cell? ⟨w2.heap.size + 1 + 1, 1, none⟩ = some (.slice vo v vc) := by simp [go_sem]
  replace hR := hR.below ha (Nat.le_refl _)
  replace hP := hP.below ha (Nat.le_refl _)
  replace hE := hE.below ha (Nat.le_refl _)
  replace hU := hU.below ha (Nat.le_refl _)
  replace hV := hV.below ha (Nat.le_refl _)
  have hszB := hB.size
  replace hB := hB.trans (ha.mono hszB)
  clear ha hszB hr
  go_wp2_with fail
  generalize (((w2.alloc (.cells #[.int .i64 p, .slice go k gc] 32)).alloc (.cells #[.slice po m pc, .slice eo q ec] 40)).alloc (.cells #[.slice uo u uc, .slice vo v vc] 42)) = W3 at hR hP hE hU hV hB c0 c1 c2 c3 c4 c5 ⊢
  obtain ⟨gb, hgb⟩ : ∃ gb, w2.heap.size = gb := ⟨_, rfl⟩
  obtain ⟨hb, hhb⟩ : ∃ hb, gb + 1 = hb := ⟨_, rfl⟩
  obtain ⟨mb, hmb⟩ : ∃ mb, hb + 1 = mb := ⟨_, rfl⟩
  simp only [hgb] at c0 c1 c2 c3 c4 c5 ⊢
  simp only [hhb] at c2 c3 c4 c5 ⊢
  simp only [hmb] at c4 c5 ⊢
  clear hgb hhb hmb
  obtain ⟨PL, hPL⟩ : ∃ PL, unL p k F T G m P q L H u U v V x y up = PL := ⟨_, rfl⟩
  have hI := implUnpack_any p go k gc F T G po m pc P eo q ec L H uo u uc U vo v vc V x y wx wy up (by omega) (by omega) (by omega) (by omega) (by omega) W3 hR hP hE hU hV
  have hS := fun W h1 h2 h3 h4 h5 => specUnpack_any p go k gc F T G po m pc P eo q ec L H uo u uc U vo v vc V x y up (by omega) (by omega) (by omega) (by omega) (by omega) W h1 h2 h3 h4 h5
  rw [hPL] at hI
  simp only [hPL] at hS
  have hN40 : PL.length ≤ 40 := by
    rw [← hPL]
    by_cases hy : UnY p k F T G m P q L H u U v V x y up
    · obtain ⟨_, _, je, hh⟩ := un_h hy
      exact hh.len.2
    · rw [unL_no hy]; simp
  have HPL : Hid (unL p k F T G m P q L H u U v V x y up = PL) := hPL
  clear hPL wx wy
  obtain ⟨N, hN⟩ : ∃ N, PL.length = N := ⟨_, rfl⟩
  obtain ⟨X, hX⟩ : ∃ X : Nat → Int, (fun j => PL.getD j 0) = X := ⟨_, rfl⟩
  refine hI.mono ?_
  clear hI
  intro e w4 hans
  obtain ⟨ao4, cap4, rfl, hc4, i4, b4⟩ := hans.rows
  clear hans
  rw [hN, hX] at i4
  rw [hN] at hc4 hN40
  simp only [hN]
  replace c0 := keep_cell b4 (Nat.le_refl _) c0
  replace c1 := keep_cell b4 (Nat.le_refl _) c1
  replace c2 := keep_cell b4 (Nat.le_refl _) c2
  replace c3 := keep_cell b4 (Nat.le_refl _) c3
  replace c4 := keep_cell b4 (Nat.le_refl _) c4
  replace c5 := keep_cell b4 (Nat.le_refl _) c5
  replace hR := hR.below b4 (Nat.le_refl _)
  replace hP := hP.below b4 (Nat.le_refl _)
  replace hE := hE.below b4 (Nat.le_refl _)
  replace hU := hU.below b4 (Nat.le_refl _)
  replace hV := hV.below b4 (Nat.le_refl _)
  have hszB := hB.size
  replace hB := hB.trans (b4.mono hszB)
  clear b4 hszB
  go_wp2_with fail
  refine (hS w4 hR hP hE hU hV).mono ?_
  clear hS
  intro e w5 hans
  obtain ⟨ao5, cap5, rfl, _, i5, b5⟩ := hans.rows
  clear hans
  rw [hN, hX] at i5
  simp only [hN]
  replace i4 := i4.below b5 (Nat.le_refl _)
  replace c0 := keep_cell b5 (Nat.le_refl _) c0
  replace c1 := keep_cell b5 (Nat.le_refl _) c1
  replace c2 := keep_cell b5 (Nat.le_refl _) c2
  replace c3 := keep_cell b5 (Nat.le_refl _) c3
  replace c4 := keep_cell b5 (Nat.le_refl _) c4
  replace c5 := keep_cell b5 (Nat.le_refl _) c5
  replace hR := hR.below b5 (Nat.le_refl _)
  replace hP := hP.below b5 (Nat.le_refl _)
  replace hE := hE.below b5 (Nat.le_refl _)
  replace hU := hU.below b5 (Nat.le_refl _)
  replace hV := hV.below b5 (Nat.le_refl _)
  have hszB := hB.size
  replace hB := hB.trans (b5.mono hszB)
  clear b5 hszB
  go_wp2_with fail
  refine (likeInts_same ao4 ao5 N cap4 cap5 X (by omega) w5 i4 i5).mono ?_
  rintro e w6 ⟨rfl, b6⟩
  replace i4 := i4.below b6 (Nat.le_refl _)
  replace c0 := keep_cell b6 (Nat.le_refl _) c0
  replace c1 := keep_cell b6 (Nat.le_refl _) c1
  replace c2 := keep_cell b6 (Nat.le_refl _) c2
  replace c3 := keep_cell b6 (Nat.le_refl _) c3
  replace c4 := keep_cell b6 (Nat.le_refl _) c4
  replace c5 := keep_cell b6 (Nat.le_refl _) c5
  replace hR := hR.below b6 (Nat.le_refl _)
  replace hP := hP.below b6 (Nat.le_refl _)
  replace hE := hE.below b6 (Nat.le_refl _)
  replace hU := hU.below b6 (Nat.le_refl _)
  replace hV := hV.below b6 (Nat.le_refl _)
  have hszB := hB.size
  replace hB := hB.trans (b6.mono hszB)
  clear b6 hszB i5
  by_cases hy : UnY p k F T G m P q L H u U v V x y up
  rotate_left
  · have hN0 : N = 0 := by
      rw [← hN, ← HPL.out, unL_no hy]; rfl
    clear HPL hX hN
    subst hN0
    go_wp2
    go_ret
    exact ⟨rfl, hB⟩
  obtain ⟨eu, ev, je, HH⟩ := un_h hy
  rw [HPL.out, hN, hX] at HH
  clear HPL hX hN hy
  subst eu
  subst ev
  have hN2 := HH.len
  have hN0 : ¬ (N = 0) := by omega
  go_wp2_with fail
  have hSR := specRanks_any po m pc P (by omega) w6 hP
  have hlr : lenR m P = m := by unfold lenR; rw [if_pos HH.okr]
  rw [hlr] at hSR
  refine hSR.mono ?_
  clear hSR hlr
  rintro e w7 ⟨ao7, cap7, rfl, hX7, b7⟩
  have hrR := ans_row hX7
  clear hX7
  replace i4 := i4.below b7 (Nat.le_refl _)
  replace c0 := keep_cell b7 (Nat.le_refl _) c0
  replace c1 := keep_cell b7 (Nat.le_refl _) c1
  replace c3 := keep_cell b7 (Nat.le_refl _) c3
  replace c4 := keep_cell b7 (Nat.le_refl _) c4
  replace c5 := keep_cell b7 (Nat.le_refl _) c5
  replace hR := hR.below b7 (Nat.le_refl _)
  replace hE := hE.below b7 (Nat.le_refl _)
  replace hU := hU.below b7 (Nat.le_refl _)
  replace hV := hV.below b7 (Nat.le_refl _)
  have hszB := hB.size
  replace hB := hB.trans (b7.mono hszB)
  clear b7 hszB c2 hP
  have hm1 : 0 < m := by
    have := HH.each 0 (by omega)
    omega
  obtain ⟨bp, op, e9, _⟩ := i4 0 (by omega)
  subst e9
  obtain ⟨bq, oq, e9, _⟩ := hrR 0 hm1
  subst e9
  have HI4 : Hid (∀ j, j < N → w7.cell? ⟨bp, op + j, none⟩ = some (.int .i64 (X j))) := fun j hj => by
    obtain ⟨b', o', e', cc⟩ := i4 j hj
    cases e'
    exact cc
  have HRK : Hid (∀ j, j < m → w7.cell? ⟨bq, oq + j, none⟩ = some (.int .i64 (rk P (-1) m j))) := fun j hj => by
    obtain ⟨b', o', e', cc⟩ := hrR j hj
    cases e'
    exact cc
  have HHH : Hid (UnH p k F T G m P v L H U V x y up N X je) := HH
  clear hrR HH
  obtain ⟨RK, hRK⟩ : ∃ RK : Nat → Int, rk P (-1) m = RK := ⟨_, rfl⟩
  have HINN : Hid (∀ i, 1 ≤ i → i + 1 < N → RK (X i).toNat < x) := by rw [← hRK]; exact HHH.out.inner
  have HFL : Hid (RK (X 0).toNat = (if up = true then x else y) ∧ RK (X (N - 1)).toNat = (if up = true then y else x)) := by rw [← hRK]; exact ⟨HHH.out.first, HHH.out.last⟩
  rw [hRK] at HRK
  clear hRK
  go_wp2_with fail
  go_loopw [11] (fun z wr => ∃ i : Nat, 1 ≤ i ∧ i + 1 ≤ N ∧ z = .int .i64 i ∧ Below w7.heap.size w7 wr) (fun z _ => N - (intOf z).toNat)
  case atStart => exact ⟨1, by omega, by omega, rfl, Below.refl _ _⟩
  case round =>
    obtain ⟨i, hi1, hiN, rfl, hbel⟩ := hrel
    by_cases hlt : i + 1 < N
    · have hlt' : (i : Int) < (N : Int) - 1 := by omega
      have hX0 := HHH.out.each i (by omega)
      have q0 := keep_cell hbel (Nat.le_refl _) (HI4.out i (by omega))
      have hXn : (X i).toNat < m := by omega
      have q1 := keep_cell hbel (Nat.le_refl _) (HRK.out (X i).toNat hXn)
      have q2 := HINN.out i hi1 hlt
      have q3 : ¬ x ≤ RK (X i).toNat := by omega
      go_wp2
      go_roundw
      case rel => exact ⟨i + 1, by omega, by omega, by go_num, by first | exact hbel | exact below_drewN hbel _⟩
      case measure => simp [intOf]; omega
    have hlt' : ¬ (i : Int) < (N : Int) - 1 := by omega
    have q0 : wr.cell? ⟨bp, op, none⟩ = some (.int .i64 (X 0)) := keep_cell hbel (Nat.le_refl _) (HI4.out 0 (by omega))
    have q1 : wr.cell? ⟨bp, op + (N - 1), none⟩ = some (.int .i64 (X (N - 1))) := keep_cell hbel (Nat.le_refl _) (HI4.out (N - 1) (by omega))
    have hNi : ((N : Int) - 1).toNat = N - 1 := by omega
    have q2 : wr.cell? ⟨bp, op + ((N : Int) - 1).toNat, none⟩ = some (.int .i64 (X (N - 1))) := by rw [hNi]; exact q1
    clear hlt hi1 hiN
    have n1 : ¬ (N : Int) ≤ (N : Int) - 1 := by omega
    have n2 : (1 : Int) ≤ (N : Int) := by omega
    have n3 : (0 : Int) < (N : Int) := by omega
    have n4 : 1 ≤ N := by omega
    go_wp2_with fail
    clear q0 q1 q2 hNi hlt' n1 n2 n3 n4
    obtain ⟨d, hd9⟩ : ∃ d : Int, (if up = true then U je else V je) = d := ⟨_, rfl⟩
    have hszw := hbel.size
    obtain ⟨hje, hjL, hjH⟩ := HHH.out.jel
    obtain ⟨be, oe, e9, _⟩ := hE 0 (by omega)
    subst e9
    have HEE : Hid (∀ j, j < v → wr.cell? ⟨be, oe + j * 2, none⟩ = some (.int .i64 (L j)) ∧ wr.cell? ⟨be, oe + j * 2 + 1, none⟩ = some (.int .i64 (H j))) := fun j hj => by
      obtain ⟨b', o', e', k0, k1⟩ := hE j hj
      cases e'
      exact ⟨keep_cell hbel (Nat.le_refl _) k0, keep_cell hbel (Nat.le_refl _) k1⟩
    obtain ⟨bu, ou, e9, _⟩ := hU 0 (by omega)
    subst e9
    obtain ⟨bv, ov, e9, _⟩ := hV 0 (by omega)
    subst e9
    have HUU : Hid (∀ j, j < v → wr.cell? ⟨bu, ou + j, none⟩ = some (.int .i64 (U j))) := fun j hj => by
      obtain ⟨b', o', e', k0⟩ := hU j hj
      cases e'
      exact keep_cell hbel (Nat.le_refl _) k0
    have HVV : Hid (∀ j, j < v → wr.cell? ⟨bv, ov + j, none⟩ = some (.int .i64 (V j))) := fun j hj => by
      obtain ⟨b', o', e', k0⟩ := hV j hj
      cases e'
      exact keep_cell hbel (Nat.le_refl _) k0
    have HC3 := keep_cell hbel (Nat.le_refl _) c3
    have HC4 := keep_cell hbel (Nat.le_refl _) c4
    have HC5 := keep_cell hbel (Nat.le_refl _) c5
    have HJ : Hid (L je = x ∧ H je = y ∧ ∀ j, j < v → L j = x → H j = y → j = je) := ⟨hjL, hjH, HHH.out.once⟩
    have HD9 : Hid ((if up = true then U je else V je) = d) := hd9
    clear hjL hjH hd9 hE hU hV c3 c4 c5
    go_loopw [14, 15] (fun wv z wt => ∃ i : Nat, i ≤ v ∧ z = .int .i64 i ∧ wv = .int .i64 (if je < i then d else 1000000000000) ∧ Below wr.heap.size wr wt) (fun _ z _ => v - (intOf z).toNat)
    case atStart => exact ⟨0, Nat.zero_le _, rfl, by simp, Below.refl _ _⟩
    case round =>
      obtain ⟨i2, hi2, rfl, rfl, hbel2⟩ := hrel
      have k3 := keep_cell hbel2 (Nat.le_refl _) HC3
      have k4 := keep_cell hbel2 (Nat.le_refl _) HC4
      have k5 := keep_cell hbel2 (Nat.le_refl _) HC5
      by_cases hlt : i2 < v
      · have hlt' : (i2 : Int) < (v : Int) := by omega
        have e0 := keep_cell hbel2 (Nat.le_refl _) (HEE.out i2 hlt).1
        have e1 := keep_cell hbel2 (Nat.le_refl _) (HEE.out i2 hlt).2
        have u0 := keep_cell hbel2 (Nat.le_refl _) (HUU.out i2 hlt)
        have v0 := keep_cell hbel2 (Nat.le_refl _) (HVV.out i2 hlt)
        obtain ⟨old, hold⟩ : ∃ old : Int, (if je < i2 then d else 1000000000000) = old := ⟨_, rfl⟩
        have HOLD : Hid ((if je < i2 then d else 1000000000000) = old) := hold
        rw [hold]
        clear hold
        have HNE : Hid (i2 ≠ je → (if je < i2 + 1 then d else 1000000000000) = old) := fun hne => by
          rw [← HOLD.out]
          by_cases h : je < i2
          · rw [if_pos h, if_pos (by omega)]
          · rw [if_neg h, if_neg (by omega)]
        by_cases hL : L i2 = x
        rotate_left
        · have hne : i2 ≠ je := fun e => hL (by rw [e]; exact HJ.out.1)
          go_wp2
          go_roundw
          case rel => exact ⟨i2 + 1, by omega, by go_num, by rw [HNE.out hne], by first | exact hbel2 | exact below_drewN hbel2 _⟩
          case measure => simp [intOf]; omega
        by_cases hH : H i2 = y
        rotate_left
        · have hne : i2 ≠ je := fun e => hH (by rw [e]; exact HJ.out.2.1)
          go_wp2
          go_roundw
          case rel => exact ⟨i2 + 1, by omega, by go_num, by rw [HNE.out hne], by first | exact hbel2 | exact below_drewN hbel2 _⟩
          case measure => simp [intOf]; omega
        have hie : i2 = je := HJ.out.2.2 i2 hlt hL hH
        have HDD : Hid ((if je < i2 + 1 then d else 1000000000000) = d) := if_pos (by omega)
        cases up
        · have hdv : V i2 = d := by have := HD9.out; simp at this; rw [hie]; exact this
          clear hie
          go_wp2
          go_roundw
          case rel => exact ⟨i2 + 1, by omega, by go_num, by rw [HDD.out], by first | exact hbel2 | exact below_drewN hbel2 _⟩
          case measure => simp [intOf]; omega
        · have hdv : U i2 = d := by have := HD9.out; simp at this; rw [hie]; exact this
          clear hie
          go_wp2
          go_roundw
          case rel => exact ⟨i2 + 1, by omega, by go_num, by rw [HDD.out], by first | exact hbel2 | exact below_drewN hbel2 _⟩
          case measure => simp [intOf]; omega
      have hlt' : ¬ (i2 : Int) < (v : Int) := by omega
      have hw9 : (if je < i2 then d else 1000000000000) = d := if_pos (by omega)
      rw [hw9]
      clear hw9
      have z0 := keep_cell hbel2 (Nat.le_refl _) (keep_cell hbel (Nat.le_refl _) c0)
      have z1 := keep_cell hbel2 (Nat.le_refl _) (keep_cell hbel (Nat.le_refl _) c1)
      have hB9 := hB.trans ((below_next hbel (Nat.le_refl _) hbel2).mono hB.size)
      have hX0 := HHH.out.each 0 (by omega)
      have hX1 := HHH.out.each (N - 1) (by omega)
      have r0 := keep_cell hbel2 (Nat.le_refl _) (keep_cell hbel (Nat.le_refl _) (HRK.out (X 0).toNat (by omega)))
      have r1 := keep_cell hbel2 (Nat.le_refl _) (keep_cell hbel (Nat.le_refl _) (HRK.out (X (N - 1)).toNat (by omega)))
      rw [HFL.out.1] at r0
      rw [HFL.out.2] at r1
      have hb79 := below_next hbel (Nat.le_refl _) hbel2
      cases up
      · go_wp2_with fail
        refine (implLength_any p go k gc F T G (some ⟨bp, op, none⟩) N cap4 X (by omega) (by omega) (hc4 (by omega)) _ (hR.below hb79 (Nat.le_refl _)) (i4.below hb79 (Nat.le_refl _))).mono ?_
        rintro e w9 ⟨rfl, b9⟩
        have hfit : lenOf p k F T G N X = d := by
          have h1 := HHH.out.fits
          have h2 := HD9.out
          simp at h1 h2
          omega
        rw [hfit]
        clear hfit
        replace r0 := keep_cell b9 (Nat.le_refl _) r0
        replace r1 := keep_cell b9 (Nat.le_refl _) r1
        try simp only [if_true, if_false, Bool.false_eq_true, if_pos] at r0 r1
        go_wp2
        go_ret
        exact ⟨rfl, hB9.trans (b9.mono hB9.size)⟩
      · go_wp2_with fail
        refine (implLength_any p go k gc F T G (some ⟨bp, op, none⟩) N cap4 X (by omega) (by omega) (hc4 (by omega)) _ (hR.below hb79 (Nat.le_refl _)) (i4.below hb79 (Nat.le_refl _))).mono ?_
        rintro e w9 ⟨rfl, b9⟩
        have hfit : lenOf p k F T G N X = d := by
          have h1 := HHH.out.fits
          have h2 := HD9.out
          simp at h1 h2
          omega
        rw [hfit]
        clear hfit
        replace r0 := keep_cell b9 (Nat.le_refl _) r0
        replace r1 := keep_cell b9 (Nat.le_refl _) r1
        try simp only [if_true, if_false, Bool.false_eq_true, if_pos] at r0 r1
        go_wp2
        go_ret
        exact ⟨rfl, hB9.trans (b9.mono hB9.size)⟩

set_option maxRecDepth 100000 in
theorem lawFnUnpacked_lifted (os : Os) (started : os.Started) (H : Type) (enc : TypeId × Value → H) :
    ReturnsInHanded {} Try.checked os 6 .any (Rows.fnUnpackedSpec.pre6 enc Try.prog Try.f6 Rows.fnUnpackedRow.domain false) (Rows.fnUnpackedSpec.post enc Try.prog Try.f6 false true false false) := by
  refine returnsInHanded_of_change (C := Try.checked) Try.own started (by kernel_rfl) Try.func6
    (ChangeSpec.witness6 (enc := enc) (C := Try.checked) false ⟨#[], #[.slice none 0 0], []⟩ 8 (by kernel_rfl) (by kernel_rfl) (by kernel_rfl) (by kernel_rfl)) ?_
  intro W base args ds gs before hval0 hW hcnd _
  have hval : ∀ (j : Nat) t v, Try.f6.params[j]? = some t → args[j]? = some v → Value.okWide Try.prog W .any base t v := hval0
  have hW' := hW
  obtain ⟨p, q, hA0, hV, rfl, hfz, hnd⟩ := hW
  have hA : DataW.TrodAll enc Try.prog W 0 (fun _ => true) true Try.f6.params.toList args.toList ds p := hA0
  rw [Try.params6] at hA hval
  obtain ⟨v1, vs1, d1, ds1, p1, q1, hargs, rfl, rfl, h1, r1⟩ := trodAll_cons hA
  obtain ⟨rfl, rfl, rfl⟩ := trodAll_nil r1
  obtain rfl : args = #[v1] := by cases args; simp_all
  obtain ⟨rfl, rfl⟩ := trodVars_none hV
  have k1 := h1
  have lt1 : ∀ x ∈ p1, x.block < W.heap.size := by obtain ⟨m, hm⟩ := k1; exact DataW.trod_lt m _ _ _ hm
  obtain ⟨b1, l1, c1', rfl⟩ := okWide_slice Try.underlying22 (hval 0 22 v1 rfl rfl)
  obtain ⟨f1, hf1⟩ := h1
  obtain ⟨ao2, m2, cap2, e2, hm2, hr2⟩ := open_bytes hf1
  simp [Value.cells] at e2
  obtain ⟨rfl, rfl, rfl⟩ := e2
  clear hA0 hval0
  refine (lawFnUnpacked_walk b1 l1 c1' hm2 W hr2).mono fun e W' ⟨he, bel⟩ => ?_
  subst he
  exact ⟨_, rfl, _, _, _, [], _, [], hW', trodAll_mk1 (shut_bool Try.underlying4 _), (trodAll_cons_mk (Below.trod Try.laidOut (by kernel_rfl) (of_decide_eq_true (by kernel_rfl)) k1 bel lt1) trodAll_mk0), rfl, bel.frame _, fun h => by cases h⟩

theorem fnUnpacked_holds : Rows.FnUnpackedSaid :=
  OpenClaim.holds_of_wide 6 Try.f6 rfl rfl rfl rfl rfl rfl rfl ⟨rfl, rfl, rfl, rfl, rfl⟩ rfl rfl rfl rfl rfl (by kernel_rfl) Try.func6 (by kernel_rfl)
    (of_decide_eq_true (by kernel_rfl)) (by unfold Func.isWrapper; first | (rw [if_pos (by decide +kernel)]; kernel_rfl) | (rw [if_neg (by decide +kernel)]; exact ⟨rfl, rfl⟩))
    (fun os started H enc _ => lawFnUnpacked_lifted os started H enc)
#print axioms fnUnpacked_holds

end Go.Proofs.Yteibbknpcgcjjab
