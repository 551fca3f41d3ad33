/-
  Proved: at every code the law FnRoutes answers true, and its argument reads behind the call as it read before. No condition.
-/
import Derived.Test.YtokaechbmnbbiabGreatDrawRtP
import Derived.Test.YtokaechbmnbbiabGreatRtXP
import Derived.Test.YtokaechbmnbbiabGreatRtDP
import Derived.Test.YtokaechbmnbbiabGreatRtZP
import Derived.Test.YtokaechbmnbbiabGreatPack15
set_option linter.unusedVariables false
set_option linter.unusedSimpArgs false
namespace Go.Proofs.YtokaechbmnbbiabGreat
open Go.ChangeShapes Go.WideShapes Go.ChangeAt Go.RowKit Go.Deep Go.Joins
attribute [local go_sem ↓] Go.wp_at_zero Go.wp_at_succ

theorem RtAns.rows {w w' : World} {e : Ending} {r : List Int × Int} (h : RtAns w w' e r) : ∃ ao cap, e = .returned (.tuple #[.slice ao r.1.length cap, .int .i64 r.2]) ∧ (0 < r.1.length → r.1.length ≤ cap) ∧ IRow w' ao r.1.length (fun j => r.1.getD j 0) ∧ Below w.heap.size w w' := by
  obtain ⟨ao, cap, e1, h2, h3⟩ := h
  refine ⟨ao, cap, e1, fun h0 => ?_, fun i hi => ?_, h3⟩
  · obtain ⟨g, rfl, _, ho⟩ := h2 h0
    exact ho.cap
  · obtain ⟨g, rfl, _, ho⟩ := h2 (by omega)
    obtain ⟨g', e', _, _, hc⟩ := ho.cells (by omega)
    cases e'
    refine ⟨g, 0, rfl, ?_⟩
    have := hc i (r.1.getD i 0) (by rw [List.getD_eq_getElem?_getD, List.getElem?_eq_getElem hi]; rfl)
    simpa using this
theorem rk_ex9 {P : Nat → Int} : ∀ k q, sn P k q = true → ∃ x, x < k ∧ P x = (q : Int) ∧ rk P (-1) k q = (x : Int)
  | 0, q, h => by simp [sn] at h
  | k + 1, q, h => by
    by_cases e : P k = (q : Int)
    · exact ⟨k, by omega, e, by unfold rk; rw [if_pos e]⟩
    · rw [sn_succ] at h
      have : sn P k q = true := by simpa [e] using h
      obtain ⟨x, hx, e1, e2⟩ := rk_ex9 k q this
      exact ⟨x, by omega, e1, by unfold rk; rw [if_neg e]; exact e2⟩
structure RtH (p : Int) (n : Nat) (F T G : Nat → Int) (k : Nat) (a b : Int) (N : Nat) (X : Nat → Int) (d : Int) : Prop where
  len : 1 ≤ N ∧ N ≤ 24
  ain : 0 ≤ a ∧ a < (k : Int)
  bin : 0 ≤ b ∧ b < (k : Int)
  first : X 0 = a
  last : X (N - 1) = b
  fits : lenOf p n F T G N X = d
  far : lenD p n F T G a = k
  dist : listD p n F T G a b.toNat = d
theorem last_map {P : Nat → Int} : ∀ (l : List Nat) (a : Nat), (P a :: l.map P).getD l.length 0 = P (l.getLastD a)
  | [], a => rfl
  | b :: l, a => by
    rw [lastD_cons]
    exact last_map l b
theorem rt_h {p : Int} {n : Nat} {F T G : Nat → Int} {k : Nat} {P : Nat → Int} {m : Nat} {L H : Nat → Int} {u : Nat} {U : Nat → Int} {v : Nat} {V : Nat → Int} {a b : Int} {l : List Int} {d : Int} (h : rtA p n F T G k P m L H u U v V a b = (l, d)) : (l = [] ∧ d = 1000000000000) ∨ RtH p n F T G k a b l.length (fun j => l.getD j 0) d := by
  unfold rtA at h
  split at h
  rotate_left
  · obtain ⟨rfl, rfl⟩ := Prod.mk.inj h
    exact .inl ⟨rfl, rfl⟩
  next hy =>
  obtain ⟨⟨hH, _, _⟩, hRa, hRb⟩ := hy
  have ho := hH.1
  obtain ⟨hkp, hg, ⟨k1, k24⟩, he⟩ := ordB_parts ho
  subst hkp
  unfold rtC at h
  simp only at h
  split at h
  · obtain ⟨rfl, rfl⟩ := Prod.mk.inj h
    exact .inl ⟨rfl, rfl⟩
  next hno =>
  right
  have hRa' : 0 ≤ a ∧ a < (k : Int) := hRa
  have hRb' : 0 ≤ b ∧ b < (k : Int) := hRb
  obtain ⟨ra, hra, ea, rka⟩ := rk_ex9 k a.toNat (each_all he _ (by omega))
  obtain ⟨rb, hrb, eb, rkb⟩ := rk_ex9 k b.toNat (each_all he _ (by omega))
  rw [rka, rkb] at h hno
  rw [Int.toNat_natCast, Int.toNat_natCast] at h hno
  have hPa : P ra = a := by rw [ea]; omega
  have hPb : P rb = b := by rw [eb]; omega
  have hA : Arcs k n F T G := arcs_of (graphB_arcs hg).2
  have hDs : ∃ Ds : Nat → Nat → Int, ∀ s, s < k → Sol k n F T G s (Ds s) := ⟨fun s => Classical.choose (sol_ex (s := s) hA), fun s _ => Classical.choose_spec (sol_ex (s := s) hA)⟩
  obtain ⟨Ds, hDs⟩ := hDs
  rcases mt_is (A := cl (Lf (lstF (k : Int) n F T P)) (Hf (lstF (k : Int) n F T P)) (cusT (k : Int) n F T G P).1 ra (lstF (k : Int) n F T P).length) (B := cl (Lf (lstF (k : Int) n F T P)) (Hf (lstF (k : Int) n F T P)) (cusT (k : Int) n F T G P).2 rb (lstF (k : Int) n F T P).length) k with hx | ⟨tn, htn, hmt, hsl⟩
  · rw [hx] at hno
    exact absurd rfl hno
  rw [hmt] at h hno
  simp only [Int.toNat_natCast] at h
  obtain ⟨lr, f1, f2, f3, f4, f5, f6⟩ := rt_facts ho hDs hra hrb htn hmt rfl hsl
  rw [← hPa] at h
  rw [f1] at h
  obtain ⟨rfl, rfl⟩ := Prod.mk.inj h
  rw [hPa, hPb] at f6
  have hL : lenD (k : Int) n F T G a = k := by
    unfold lenD okD
    rw [hg]
    have : inB a 0 ((k : Int) - 1) = true := by simp [inB]; omega
    rw [this]
    simp
  refine ⟨⟨by simp, by simp; omega⟩, hRa', hRb', ?_, ?_, ?_, hL, ?_⟩
  · show P ra = a
    exact hPa
  · have := last_map (P := P) lr ra
    simp only [List.length_cons, List.length_map, Nat.add_sub_cancel]
    rw [this, f3, hPb]
  · have e : (P ra :: lr.map P).length = lr.length + 1 := by simp
    rw [e]
    exact f5
  · unfold listD
    rw [Int.toNat_natCast, turns_sol hA (hDs a.toNat (by omega)) b.toNat (by omega), f6]

set_option maxRecDepth 100000 in
set_option maxHeartbeats 16000000 in
theorem lawFnRoutes_walk (ao : Option Addr) (n cap : Nat) (hn : n ≤ maxLen) (w : World) (hr : ByRow w w.heap.size ao n) :
    Calls Tryz.prog 4 #[.slice ao n cap] w fun e w' => e = .returned (.bool true) ∧ Below w.heap.size w w' := by
  unfold maxLen at hn
  by_cases hbig : 4096 < n
  · have hd : decide (4096 < n) = true := by simp [hbig]
    go_enter Tryz.func4, Tryz.ntmps4
    go_wp2_with fail
    refine (big_any ao n cap (by omega) _).mono ?_
    rw [hd]
    rintro e w1 ⟨rfl, hq⟩
    have hq' := hq.symm
    subst hq'
    go_wp2
    go_ret
    exact ⟨rfl, Below.refl _ _⟩
  have hd : decide (4096 < n) = false := by simp; omega
  go_enter Tryz.func4, Tryz.ntmps4
  go_wp2_with fail
  refine (big_any ao n cap (by omega) _).mono ?_
  rw [hd]
  rintro e w1 ⟨rfl, hq⟩
  have hq' := hq.symm
  subst hq'
  clear hq
  go_wp2_with fail
  refine (drawRoute_any ao n cap (by omega) _ hr).mono ?_
  rintro e w2 ⟨p, go, k, gc, po, m, pc, P, eo, q, ec, L, H, uo, u, uc, U, vo, v, vc, V, x, y, rfl, ⟨hk, hm, hq, hec, hu, hv⟩, ⟨wx, wy⟩, hD, hB⟩
  obtain ⟨F, T, G, hR, _⟩ := hD.arcs.wft
  have hP := hD.ord
  have hE := hD.edg
  have hU := hD.up
  have hV := hD.dn
  clear hD
  have ha := (((Below.refl w2.heap.size w2).alloc (Nat.le_refl _) (.cells #[.int .i64 p, .slice go k gc] 26)).alloc (by simp) (.cells #[.slice po m pc, .slice eo q ec] 30)).alloc (by simp; omega) (.cells #[.slice uo u uc, .slice vo v vc] 34)
  have c0 : (((w2.alloc (.cells #[.int .i64 p, .slice go k gc] 26)).alloc (.cells #[.slice po m pc, .slice eo q ec] 30)).alloc (.cells #[.slice uo u uc, .slice vo v vc] 34)).cell? ⟨w2.heap.size, 0, none⟩ = some (.int .i64 p) := by simp [go_sem]
  have c1 : (((w2.alloc (.cells #[.int .i64 p, .slice go k gc] 26)).alloc (.cells #[.slice po m pc, .slice eo q ec] 30)).alloc (.cells #[.slice uo u uc, .slice vo v vc] 34)).cell? ⟨w2.heap.size, 1, none⟩ = some (.slice go k gc) := by simp [go_sem]
  have c2 : (((w2.alloc (.cells #[.int .i64 p, .slice go k gc] 26)).alloc (.cells #[.slice po m pc, .slice eo q ec] 30)).alloc (.cells #[.slice uo u uc, .slice vo v vc] 34)).cell? ⟨w2.heap.size + 1, 0, none⟩ = some (.slice po m pc) := by simp [go_sem]
  have c3 : (((w2.alloc (.cells #[.int .i64 p, .slice go k gc] 26)).alloc (.cells #[.slice po m pc, .slice eo q ec] 30)).alloc (.cells #[.slice uo u uc, .slice vo v vc] 34)).cell? ⟨w2.heap.size + 1, 1, none⟩ = some (.slice eo q ec) := by simp [go_sem]
  have c4 : (((w2.alloc (.cells #[.int .i64 p, .slice go k gc] 26)).alloc (.cells #[.slice po m pc, .slice eo q ec] 30)).alloc (.cells #[.slice uo u uc, .slice vo v vc] 34)).cell? ⟨w2.heap.size + 1 + 1, 0, none⟩ = some (.slice uo u uc) := by simp [go_sem]
  have c5 : (((w2.alloc (.cells #[.int .i64 p, .slice go k gc] 26)).alloc (.cells #[.slice po m pc, .slice eo q ec] 30)).alloc (.cells #[.slice uo u uc, .slice vo v vc] 34)).cell? ⟨w2.heap.size + 1 + 1, 1, none⟩ = some (.slice vo v vc) := by simp [go_sem]
  replace hR := hR.below ha (Nat.le_refl _)
  replace hP := hP.below ha (Nat.le_refl _)
  replace hE := hE.below ha (Nat.le_refl _)
  replace hU := hU.below ha (Nat.le_refl _)
  replace hV := hV.below ha (Nat.le_refl _)
  have hszB := hB.size
  replace hB := hB.trans (ha.mono hszB)
  clear ha hszB hr
  go_wp2_with fail
  generalize (((w2.alloc (.cells #[.int .i64 p, .slice go k gc] 26)).alloc (.cells #[.slice po m pc, .slice eo q ec] 30)).alloc (.cells #[.slice uo u uc, .slice vo v vc] 34)) = W3 at hR hP hE hU hV hB c0 c1 c2 c3 c4 c5 ⊢
  obtain ⟨gb, hgb⟩ : ∃ gb, w2.heap.size = gb := ⟨_, rfl⟩
  obtain ⟨hb, hhb⟩ : ∃ hb, gb + 1 = hb := ⟨_, rfl⟩
  obtain ⟨mb, hmb⟩ : ∃ mb, hb + 1 = mb := ⟨_, rfl⟩
  simp only [hgb] at c0 c1 c2 c3 c4 c5 ⊢
  simp only [hhb] at c2 c3 c4 c5 ⊢
  simp only [hmb] at c4 c5 ⊢
  clear hgb hhb hmb
  obtain ⟨⟨PL, d⟩, hPL⟩ : ∃ PL, rtA p k F T G m P q L H u U v V x y = PL := ⟨_, rfl⟩
  have hI := implRoute_any p go k gc F T G po m pc P eo q ec L H uo u uc U vo v vc V x y (by omega) (by omega) (by omega) (by omega) (by omega) W3 hR hP hE hU hV
  have hS := fun W h1 h2 h3 h4 h5 => specRoute_any p go k gc F T G po m pc P eo q ec L H uo u uc U vo v vc V x y (by omega) (by omega) (by omega) (by omega) (by omega) W h1 h2 h3 h4 h5
  rw [hPL] at hI
  simp only [hPL] at hS
  have HH := rt_h hPL
  have hN24 : PL.length ≤ 24 := by
    rcases HH with ⟨rfl, _⟩ | h
    · simp
    · exact h.len.2
  clear hPL wx wy
  obtain ⟨N, hN⟩ : ∃ N, PL.length = N := ⟨_, rfl⟩
  obtain ⟨X, hX⟩ : ∃ X : Nat → Int, (fun j => PL.getD j 0) = X := ⟨_, rfl⟩
  refine hI.mono ?_
  clear hI
  intro e w4 hans
  obtain ⟨ao4, cap4, rfl, hc4, i4, b4⟩ := hans.rows
  clear hans
  simp only at hc4 i4
  rw [hN, hX] at i4
  rw [hN] at hc4 hN24
  simp only [hN]
  replace c0 := keep_cell b4 (Nat.le_refl _) c0
  replace c1 := keep_cell b4 (Nat.le_refl _) c1
  replace c2 := keep_cell b4 (Nat.le_refl _) c2
  replace c3 := keep_cell b4 (Nat.le_refl _) c3
  replace c4 := keep_cell b4 (Nat.le_refl _) c4
  replace c5 := keep_cell b4 (Nat.le_refl _) c5
  replace hR := hR.below b4 (Nat.le_refl _)
  replace hP := hP.below b4 (Nat.le_refl _)
  replace hE := hE.below b4 (Nat.le_refl _)
  replace hU := hU.below b4 (Nat.le_refl _)
  replace hV := hV.below b4 (Nat.le_refl _)
  have hszB := hB.size
  replace hB := hB.trans (b4.mono hszB)
  clear b4 hszB
  go_wp2_with fail
  refine (hS w4 hR hP hE hU hV).mono ?_
  clear hS
  intro e w5 hans
  obtain ⟨ao5, cap5, rfl, _, i5, b5⟩ := hans.rows
  clear hans
  simp only at i5
  rw [hN, hX] at i5
  simp only [hN]
  replace i4 := i4.below b5 (Nat.le_refl _)
  replace c0 := keep_cell b5 (Nat.le_refl _) c0
  replace c1 := keep_cell b5 (Nat.le_refl _) c1
  replace hR := hR.below b5 (Nat.le_refl _)
  have hszB := hB.size
  replace hB := hB.trans (b5.mono hszB)
  clear b5 hszB
  clear c2 c3 c4 c5 hP hE hU hV
  go_wp2_with fail
  refine (likeInts_same ao4 ao5 N cap4 cap5 X (by omega) w5 i4 i5).mono ?_
  rintro e w6 ⟨rfl, b6⟩
  replace i4 := i4.below b6 (Nat.le_refl _)
  replace c0 := keep_cell b6 (Nat.le_refl _) c0
  replace c1 := keep_cell b6 (Nat.le_refl _) c1
  replace hR := hR.below b6 (Nat.le_refl _)
  have hszB := hB.size
  replace hB := hB.trans (b6.mono hszB)
  clear b6 hszB
  clear i5
  rcases HH with ⟨hl, hdf⟩ | HH
  · have hN0 : N = 0 := by rw [← hN, hl]; rfl
    subst hdf
    clear hX hN hl
    subst hN0
    go_wp2
    go_ret
    exact ⟨rfl, hB⟩
  rw [hN, hX] at HH
  clear hX hN
  have hN2 := HH.len
  have hN0 : ¬ (N = 0) := by omega
  obtain ⟨bp, op, e9, _⟩ := i4 0 (by omega)
  subst e9
  have HI4 : ∀ j, j < N → w6.cell? ⟨bp, op + j, none⟩ = some (.int .i64 (X j)) := fun j hj => by
    obtain ⟨b', o', e', cc⟩ := i4 j hj
    cases e'
    exact cc
  have q0 : w6.cell? ⟨bp, op, none⟩ = some (.int .i64 x) := by have := HI4 0 (by omega); rw [HH.first] at this; exact this
  have q1 : w6.cell? ⟨bp, op + (N - 1), none⟩ = some (.int .i64 y) := by have := HI4 (N - 1) (by omega); rw [HH.last] at this; exact this
  have hNi : ((N : Int) - 1).toNat = N - 1 := by omega
  have q2 : w6.cell? ⟨bp, op + ((N : Int) - 1).toNat, none⟩ = some (.int .i64 y) := by rw [hNi]; exact q1
  have n1 : ¬ (N : Int) ≤ (N : Int) - 1 := by omega
  have n2 : (1 : Int) ≤ (N : Int) := by omega
  have n3 : (0 : Int) < (N : Int) := by omega
  have n4 : 1 ≤ N := by omega
  have HHH : Hid (RtH p k F T G m x y N X d) := HH
  clear HH HI4
  go_wp2_with fail
  refine (implLength_any p go k gc F T G (some ⟨bp, op, none⟩) N cap4 X (by omega) (by omega) (hc4 (by omega)) _ hR i4).mono ?_
  rintro e w9 ⟨rfl, b9⟩
  rw [HHH.out.fits]
  clear q0 q1 q2
  replace c0 := keep_cell b9 (Nat.le_refl _) c0
  replace c1 := keep_cell b9 (Nat.le_refl _) c1
  replace hR := hR.below b9 (Nat.le_refl _)
  have hszB := hB.size
  replace hB := hB.trans (b9.mono hszB)
  clear b9 hszB i4
  go_wp2_with fail
  refine (specDistances_any p go k gc F T G x (by omega) _ hR).mono ?_
  rintro e w10 ⟨aoD, capD, rfl, hXD, b10⟩
  have hrD := ans_row hXD
  have hyy := HHH.out.bin
  rw [HHH.out.far] at hrD
  obtain ⟨bd, od, e9, cd⟩ := hrD y.toNat (by omega)
  subst e9
  rw [HHH.out.dist] at cd
  rw [HHH.out.far]
  clear hXD
  have hszB := hB.size
  replace hB := hB.trans (b10.mono hszB)
  have hy1 : ¬ (m : Int) ≤ y := by omega
  have hy2 : y < (m : Int) := hyy.2
  have hy0 : 0 ≤ y := hyy.1
  go_wp2
  go_ret
  exact ⟨rfl, by first | exact hB | exact below_drewN hB _⟩

set_option maxRecDepth 100000 in
theorem lawFnRoutes_lifted (os : Os) (started : os.Started) (H : Type) (enc : TypeId × Value → H) :
    ReturnsInHanded {} Tryz.checked os 4 .any (Rows.fnRoutesSpec.pre6 enc Tryz.prog Tryz.f4 Rows.fnRoutesRow.domain false) (Rows.fnRoutesSpec.post enc Tryz.prog Tryz.f4 false true false false) := by
  refine returnsInHanded_of_change (C := Tryz.checked) Tryz.own started (by kernel_rfl) Tryz.func4
    (ChangeSpec.witness6 (enc := enc) (C := Tryz.checked) false ⟨#[], #[.slice none 0 0], []⟩ 8 (by kernel_rfl) (by kernel_rfl) (by kernel_rfl) (by kernel_rfl)) ?_
  intro W base args ds gs before hval0 hW hcnd _
  have hval : ∀ (j : Nat) t v, Tryz.f4.params[j]? = some t → args[j]? = some v → Value.okWide Tryz.prog W .any base t v := hval0
  have hW' := hW
  obtain ⟨p, q, hA0, hV, rfl, hfz, hnd⟩ := hW
  have hA : DataW.TrodAll enc Tryz.prog W 0 (fun _ => true) true Tryz.f4.params.toList args.toList ds p := hA0
  rw [Tryz.params4] at hA hval
  obtain ⟨v1, vs1, d1, ds1, p1, q1, hargs, rfl, rfl, h1, r1⟩ := trodAll_cons hA
  obtain ⟨rfl, rfl, rfl⟩ := trodAll_nil r1
  obtain rfl : args = #[v1] := by cases args; simp_all
  obtain ⟨rfl, rfl⟩ := trodVars_none hV
  have k1 := h1
  have lt1 : ∀ x ∈ p1, x.block < W.heap.size := by obtain ⟨m, hm⟩ := k1; exact DataW.trod_lt m _ _ _ hm
  obtain ⟨b1, l1, c1', rfl⟩ := okWide_slice Tryz.underlying22 (hval 0 22 v1 rfl rfl)
  obtain ⟨f1, hf1⟩ := h1
  obtain ⟨ao2, m2, cap2, e2, hm2, hr2⟩ := open_bytes hf1
  simp [Value.cells] at e2
  obtain ⟨rfl, rfl, rfl⟩ := e2
  clear hA0 hval0
  refine (lawFnRoutes_walk b1 l1 c1' hm2 W hr2).mono fun e W' ⟨he, bel⟩ => ?_
  subst he
  exact ⟨_, rfl, _, _, _, [], _, [], hW', trodAll_mk1 (shut_bool Tryz.underlying4 _), (trodAll_cons_mk (Below.trod Tryz.laidOut (by kernel_rfl) (of_decide_eq_true (by kernel_rfl)) k1 bel lt1) trodAll_mk0), rfl, bel.frame _, fun h => by cases h⟩

theorem fnRoutes_holds : Rows.FnRoutesSaid :=
  OpenClaim.holds_of_wide 4 Tryz.f4 rfl rfl rfl rfl rfl rfl rfl ⟨rfl, rfl, rfl, rfl, rfl⟩ rfl rfl rfl rfl rfl (by kernel_rfl) Tryz.func4 (by kernel_rfl)
    (of_decide_eq_true (by kernel_rfl)) (by unfold Func.isWrapper; first | (rw [if_pos (by decide +kernel)]; kernel_rfl) | (rw [if_neg (by decide +kernel)]; exact ⟨rfl, rfl⟩))
    (fun os started H enc _ => lawFnRoutes_lifted os started H enc)
#print axioms fnRoutes_holds

end Go.Proofs.YtokaechbmnbbiabGreat
