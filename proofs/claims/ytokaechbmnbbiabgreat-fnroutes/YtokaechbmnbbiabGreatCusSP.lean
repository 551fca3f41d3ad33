/-
  Customize, the document's, at every map and every hierarchy.
-/
import Derived.Test.YtokaechbmnbbiabGreatPack10
import Derived.Test.YtokaechbmnbbiabGreatPack7
import Derived.Test.YtokaechbmnbbiabGreatPack4
import Derived.Test.YtokaechbmnbbiabGreatPack2
import Derived.Test.YtokaechbmnbbiabGreatPack5
import Derived.Deep.RegionLaw
import Derived.Deep.RegionHeld3
set_option linter.unusedVariables false
set_option linter.unusedSimpArgs false
namespace Go.Proofs.YtokaechbmnbbiabGreat
open Go.RowKit Go.Deep Go.Joins
attribute [local go_sem ↓] Go.wp_at_zero Go.wp_at_succ

set_option maxRecDepth 100000 in
set_option maxHeartbeats 4000000 in
theorem l5Customize_own (p : Int) (ao : Option Addr) (n cap : Nat) (F T G : Nat → Int) (po : Option Addr) (k pcap : Nat) (P : Nat → Int) (eo : Option Addr) (m ecap : Nat) (L H : Nat → Int) (hn : n ≤ 1048576) (hm : m ≤ 1048576) (hk : k ≤ 1048576) (hg : arcsB p F T G n = true) (hC : Chd (k : Int) m L H) (w : World) (hr : Row w ao n F T G) (hp : IRow w po k P) (he : ERow w eo m L H) :
    Calls Tryz.prog 32 #[.agg #[.int .i64 p, .slice ao n cap], .agg #[.slice po k pcap, .slice eo m ecap]] w fun e w' => MAnsO w w' e m (runT (w0U n F T G P L H, w0D n F T G P L H) (allT m L H m)).1 (runT (w0U n F T G P L H, w0D n F T G P L H) (allT m L H m)).2 := by
  have HC : Hid (Chd (k : Int) m L H) := hC
  have HED : Hid (edB (k : Int) L H m = true) := by
    have := hC.1
    simp [edgesB] at this
    exact this.2
  have HEI : Hid (∀ j, j < m → 0 ≤ L j ∧ L j < H j ∧ H j < (k : Int)) := fun j hj => edgeB_in (edB_at m HED.out j hj)
  have HG : Hid (arcsB p F T G n = true) := hg
  clear hC hg
  have hB0 : CS w (.int .i64 p) (.slice ao n cap) (.slice po k pcap) (.slice eo m ecap) none 0 0 (w0U n F T G P L H) none 0 0 (w0D n F T G P L H) ((((w.alloc (.cells #[.int .i64 p, .slice ao n cap] 26)).alloc (.cells #[.slice po k pcap, .slice eo m ecap] 30)).alloc (.cells #[.slice none 0 0, .slice none 0 0] 34)).alloc (.cells #[.slice none 0 0, .slice none 0 0] 34)) := by
    refine ⟨((((Below.refl _ w).alloc (Nat.le_refl _) _).alloc (by simp) _).alloc (by simp; omega) _).alloc (by simp; omega) _, by simp [go_sem], by simp [go_sem], by simp [go_sem], by simp [go_sem], ?_, ?_, OwnE.nil _ _ _, OwnE.nil _ _ _, fun x e => by simp [Value.ownBlock] at e⟩
    · have := (me2_new ((w.alloc (.cells #[.int .i64 p, .slice ao n cap] 26)).alloc (.cells #[.slice po k pcap, .slice eo m ecap] 30)) (.slice none 0 0) (.slice none 0 0)).alloc (.cells #[.slice none 0 0, .slice none 0 0] 34)
      simpa using this
    · have := me2_new (((w.alloc (.cells #[.int .i64 p, .slice ao n cap] 26)).alloc (.cells #[.slice po k pcap, .slice eo m ecap] 30)).alloc (.cells #[.slice none 0 0, .slice none 0 0] 34)) (.slice none 0 0) (.slice none 0 0)
      simpa using this
  go_enter Tryz.func32, Tryz.ntmps32
  go_wp2_with fail
  go_loopw [6] (fun x wr => ∃ (j gc hc : Nat) (go ho : Option Addr), j ≤ m ∧ x = .int .i64 j ∧ CS w (.int .i64 p) (.slice ao n cap) (.slice po k pcap) (.slice eo m ecap) go j gc (w0U n F T G P L H) ho j hc (w0D n F T G P L H) wr) (fun x _ => m - (intOf x).toNat)
  case atStart => exact ⟨0, 0, 0, none, none, Nat.zero_le _, rfl, hB0⟩
  case round =>
    clear hB0
    obtain ⟨j, gc, hc, go, ho, hj, rfl, hD⟩ := hrel
    by_cases hlt : j < m
    · obtain ⟨ab, aoff, hao, e0, e1⟩ := (he.below hD.bel (Nat.le_refl _)) j hlt
      subst hao
      obtain ⟨l0, l1, l2⟩ := HEI.out j hlt
      obtain ⟨tL, hL⟩ : ∃ tL : Nat, L j = (tL : Int) := ⟨(L j).toNat, by omega⟩
      obtain ⟨tH, hH⟩ : ∃ tH : Nat, H j = (tH : Int) := ⟨(H j).toNat, by omega⟩
      obtain ⟨pb, poff, hpo, p0⟩ := (hp.below hD.bel (Nat.le_refl _)) tL (by omega)
      obtain ⟨_, _, x1, p1⟩ := (hp.below hD.bel (Nat.le_refl _)) tH (by omega)
      rw [hpo] at x1
      simp only [Option.some.injEq, Addr.mk.injEq, and_true] at x1
      obtain ⟨rfl, rfl⟩ := x1
      subst hpo
      have hj1 : (0 : Int) ≤ (j : Int) := by omega
      have hj2 : (j : Int) < (m : Int) := by omega
      have t1 : (tL : Int) < (k : Int) := by omega
      have t2 : (tH : Int) < (k : Int) := by omega
      have q1 := hD.h0
      have q2 := hD.h1
      have HW : Hid (w0U n F T G P L H j = lastW F T G (P tL) (P tH) n ∧ w0D n F T G P L H j = lastW F T G (P tH) (P tL) n) := by
        have h1 : (H j).toNat = tH := by omega
        have h2 : (L j).toNat = tL := by omega
        exact ⟨by unfold w0U; rw [h1, h2], by unfold w0D; rw [h1, h2]⟩
      go_wp2
      go_quiet (fail)
      have hd1 := below_drewN (Below.refl wr.heap.size wr) nq
      replace hD := hD.next hd1
      replace e0 := keep_cell hd1 (Nat.le_refl _) e0
      replace e1 := keep_cell hd1 (Nat.le_refl _) e1
      replace p0 := keep_cell hd1 (Nat.le_refl _) p0
      replace p1 := keep_cell hd1 (Nat.le_refl _) p1
      replace q1 := keep_cell hd1 (Nat.le_refl _) q1
      replace q2 := keep_cell hd1 (Nat.le_refl _) q2
      clear hd1
      generalize wr.drewN nq = W1 at hD e0 e1 p0 p1 q1 q2 ⊢
      go_wp2
      go_quiet (fail)
      have hd1 := below_drewN (Below.refl W1.heap.size W1) nq
      replace hD := hD.next hd1
      clear hd1 e0 e1 p0 p1 q1 q2
      generalize W1.drewN nq = W2 at hD ⊢
      have q3 := hD.g0
      have q4 := hD.g1
      have b0 : W2.cell? ⟨w.heap.size + 3, 0, none⟩ = some (.slice go j gc) := hD.box.cell (j := 0) (by omega)
      replace hD := hD.next (Below.refl _ W2).drew
      go_wp2
      go_region_law (first | (go_simp; go_at_call 84; refine (l1Weight_any p ao n cap F T G (P tL) (P tH) hn HG.out _ (hr.below hD.bel (Nat.le_refl _))).mono ?_; rintro e w5 ⟨rfl, hb5⟩; have hD5 := hD.next hb5; have b5 : w5.cell? ⟨w.heap.size + 3, 0, none⟩ = some (.slice go j gc) := hD5.box.cell (j := 0) (by omega); have hl5 := hD5.box.lt) | (refine step_append_own ?_ (.tmp 41) (.tmp 46) ?_ (w.heap.size + 4) j gc go (w0U n F T G P L H) ?_ (hD5.own1.next ((Below.refl _ _).alloc (Nat.le_refl _) _)) w5.heap.size ?_ (by rw [HW.out.1]; simp [go_sem]) (by omega) (by simp; omega) ?_; rfl; rfl; rfl; rfl; intro g' gc' w6 hown6 hgrow hr6; have hbx6 := (hD5.box.alloc _).far hgrow (fun x e => (hD5.own1.at e).1) (by omega); have hb6 : w6.cell? ⟨w.heap.size + 3, 0, none⟩ = some (.slice go j gc) := hbx6.cell (j := 0) (by omega); have hz6 := hbx6.frozen 0))
      all_goals
        have R := (hD5.next ((Below.refl _ _).alloc (Nat.le_refl _) _)).app1 hgrow hown6 hr6
        clear hbx6 hb6 hz6 hD5 hgrow hD hown6 b5 q3 q4 b0 hl5 hr6 hb5
        go_simp
        generalize w6.setCell ⟨w.heap.size + 3, 0, none⟩ (.slice (some ⟨g', 0, none⟩) (j + 1) gc') = W3 at R ⊢
        have q3 := R.g0
        have q4 := R.g1
        have b0 : W3.cell? ⟨w.heap.size + 3, 1, none⟩ = some (.slice ho j hc) := R.box.cell (j := 1) (by omega)
        replace R := R.next (Below.refl _ W3).drew
        go_wp2
        go_region_law (first | (go_simp; go_at_call 84; refine (l1Weight_any p ao n cap F T G (P tH) (P tL) hn HG.out _ (hr.below R.bel (Nat.le_refl _))).mono ?_; rintro e w5 ⟨rfl, hb5⟩; have hD5 := R.next hb5; have b5 : w5.cell? ⟨w.heap.size + 3, 1, none⟩ = some (.slice ho j hc) := hD5.box.cell (j := 1) (by omega); have hl5 := hD5.box.lt) | (refine step_append_own ?_ (.tmp 50) (.tmp 55) ?_ (w.heap.size + 4) j hc ho (w0D n F T G P L H) ?_ (hD5.own2.next ((Below.refl _ _).alloc (Nat.le_refl _) _)) w5.heap.size ?_ (by rw [HW.out.2]; simp [go_sem]) (by omega) (by simp; omega) ?_; rfl; rfl; rfl; rfl; intro g2 gc2 w7 hown6 hgrow hr6; have hbx6 := (hD5.box.alloc _).far hgrow (fun x e => (hD5.own2.at e).1) (by omega); have hb6 : w7.cell? ⟨w.heap.size + 3, 1, none⟩ = some (.slice ho j hc) := hbx6.cell (j := 1) (by omega); have hz6 := hbx6.frozen 1))
        all_goals
          have R2 := (hD5.next ((Below.refl _ _).alloc (Nat.le_refl _) _)).app2 hgrow hown6 hr6
          clear hbx6 hb6 hz6 hD5 hgrow R hown6 b5 q3 q4 b0 hl5 hr6 hb5
          go_wp2
          go_roundw
          case rel => exact ⟨j + 1, gc', gc2, _, _, by omega, by go_num, R2⟩
          case measure => simp [intOf]; omega
    have hjm : j = m := by omega
    subst hjm
    have hb2 := hD.box
    obtain ⟨bU, bV, eU, iU, eV, iV, lU, lV, hne, rV, rU⟩ : ∃ bU bV, (0 < j → go = some ⟨bU, 0, none⟩) ∧ (0 < j → IHas wr bU j (w0U n F T G P L H)) ∧ (0 < j → ho = some ⟨bV, 0, none⟩) ∧ (0 < j → IHas wr bV j (w0D n F T G P L H)) ∧ w.heap.size + 4 ≤ bU ∧ w.heap.size + 4 ≤ bV ∧ bU ≠ bV ∧ (0 < j → Cap wr bV hc) ∧ (0 < j → j ≤ gc) := by
      by_cases h0 : 0 < j
      · obtain ⟨b1, e1, l1, i1⟩ := hD.own1.has h0
        obtain ⟨b2, e2, l2, i2⟩ := hD.own2.has h0
        exact ⟨b1, b2, fun _ => e1, fun _ => i1, fun _ => e2, fun _ => i2, l1, l2, fun e => hD.sep b1 (by rw [e1]; rfl) (by rw [e2, e]; rfl), fun _ => hD.own2.capAt e2, fun _ => hD.own1.room e1⟩
      · exact ⟨w.heap.size + 4, w.heap.size + 5, fun h => absurd h h0, fun h => absurd h h0, fun h => absurd h h0, fun h => absurd h h0, by omega, by omega, by omega, fun h => absurd h h0, fun h => absurd h h0⟩
    have HIN : Hid (InF j (w0U n F T G P L H) ∧ InF j (w0D n F T G P L H)) := ⟨fun _ _ => lastW_in n HG.out, fun _ _ => lastW_in n HG.out⟩
    have q2 := hD.h1
    have hT0 : CT w (.slice po k pcap) (.slice eo j ecap) (.slice go j gc) (.slice ho j hc) j bU bV (runT (w0U n F T G P L H, w0D n F T G P L H) []) wr := ⟨hD.bel, hD.h0, hD.h1, hD.res, hD.box, iU, iV, fun x o q c e => by cases e; exact rV x⟩
    clear hD hb2 iU iV hj hlt
    go_wp2
    clear q2
    go_loopw [9] (fun x wq => ∃ i : Nat, i ≤ j ∧ x = .int .i64 i ∧ (∀ t ∈ allT j L H i, TOk j L H t) ∧ CT w (.slice po k pcap) (.slice eo j ecap) (.slice go j gc) (.slice ho j hc) j bU bV (runT (w0U n F T G P L H, w0D n F T G P L H) (allT j L H i)) wq) (fun x _ => j - (intOf x).toNat)
    case atStart => exact ⟨0, Nat.zero_le _, rfl, fun t ht => by simp [allT] at ht, hT0⟩
    case round =>
      clear hT0
      obtain ⟨i, hi, rfl, hall, hT⟩ := hrel
      have HALL : Hid (∀ t ∈ allT j L H i, TOk j L H t) := hall
      clear hall
      have q2 := hT.h1
      by_cases hlt2 : i < j
      rotate_left
      · have hin : i = j := by omega
        subst hin
        have b0 : wr.cell? ⟨w.heap.size + 3, 0, none⟩ = some (.slice go i gc) := hT.box.cell (j := 0) (by omega)
        have b1 : wr.cell? ⟨w.heap.size + 3, 1, none⟩ = some (.slice ho i hc) := hT.box.cell (j := 1) (by omega)
        have r0 : wr.cell? ⟨w.heap.size + 2, 0, none⟩ = some (.slice none 0 0) := hT.res.cell (j := 0) (by omega)
        have r1 : wr.cell? ⟨w.heap.size + 2, 1, none⟩ = some (.slice none 0 0) := hT.res.cell (j := 1) (by omega)
        have z0 := hT.res.frozen 0
        have z1 := hT.res.frozen 1
        have hl := hT.box.lt
        go_wp2
        have hB4 := ret_below hT.bel (s := w.heap.size + 2) (by omega) (.slice go i gc) (.slice ho i hc)
        have d0 : ((wr.setCell ⟨w.heap.size + 2, 0, none⟩ (.slice go i gc)).setCell ⟨w.heap.size + 2, 1, none⟩ (.slice ho i hc)).cell? ⟨w.heap.size + 2, 0, none⟩ = some (.slice go i gc) := by simp [go_sem, r0, r1]
        have d1 : ((wr.setCell ⟨w.heap.size + 2, 0, none⟩ (.slice go i gc)).setCell ⟨w.heap.size + 2, 1, none⟩ (.slice ho i hc)).cell? ⟨w.heap.size + 2, 1, none⟩ = some (.slice ho i hc) := by simp [go_sem, r0, r1]
        have hU4 := fun x => (hT.up x).of_block (ret_block (W := wr) (s := w.heap.size + 2) (b := bU) (.slice go i gc) (.slice ho i hc) (by omega))
        have hV4 := fun x => (hT.dn x).of_block (ret_block (W := wr) (s := w.heap.size + 2) (b := bV) (.slice go i gc) (.slice ho i hc) (by omega))
        have hR4 := fun x => (hT.room x _ _ _ rfl).of_block (ret_block (W := wr) (s := w.heap.size + 2) (b := bV) (.slice go i gc) (.slice ho i hc) (by omega))
        have hs4 : w.heap.size + 2 ≤ ((wr.setCell ⟨w.heap.size + 2, 0, none⟩ (.slice go i gc)).setCell ⟨w.heap.size + 2, 1, none⟩ (.slice ho i hc)).heap.size := by simp [World.setCell]; omega
        generalize ((wr.setCell ⟨w.heap.size + 2, 0, none⟩ (.slice go i gc)).setCell ⟨w.heap.size + 2, 1, none⟩ (.slice ho i hc)) = W4 at hB4 d0 d1 hU4 hV4 hR4 hs4 ⊢
        clear hT b0 b1 r0 r1 z0 z1 hl
        simp [bodyPost, results, Tryz.results32, go_sem, d0, d1]
        exact ⟨go, gc, ho, hc, by simp, fun x => ⟨bU, bV, eU x, eV x, by omega, by omega, hne, hU4 x, hV4 x, hR4 x, rU x⟩, hs4, hB4⟩
      go_wp2
      clear q2
      go_loopw [10] (fun x wq => ∃ (kk : Nat) (pre : List Tr), i < kk ∧ kk ≤ j ∧ x = .int .i64 kk ∧ (∀ t ∈ pre, TOk j L H t) ∧ pre ++ rowT j L H i (j - kk) kk = allT j L H (i + 1) ∧ CT w (.slice po k pcap) (.slice eo j ecap) (.slice go j gc) (.slice ho j hc) j bU bV (runT (w0U n F T G P L H, w0D n F T G P L H) pre) wq) (fun x _ => j - (intOf x).toNat)
      case atStart => exact ⟨i + 1, allT j L H i, by omega, by omega, by go_num, HALL.out, rfl, hT⟩
      case round =>
        clear hT
        obtain ⟨kk, pre, hik, hk9, rfl, hpre, hall, hT⟩ := hrel
        have HP : Hid ((∀ t ∈ pre, TOk j L H t) ∧ pre ++ rowT j L H i (j - kk) kk = allT j L H (i + 1)) := ⟨hpre, hall⟩
        clear hpre hall
        have q1 := hT.h1
        by_cases hkn : kk < j
        rotate_left
        · have e : kk = j := by omega
          have HN : Hid (pre = allT j L H (i + 1)) := (show pre = allT j L H (i + 1) from by rw [← HP.out.2, rowT_stop (by omega), List.append_nil])
          have hd : decide ((kk : Int) < (j : Int)) = false := by simp; omega
          go_wp2
          go_quiet (fail)
          have hT2 := hT.next (below_drewN (Below.refl wr.heap.size wr) nq)
          clear hT q1
          go_wp2
          go_roundw
          case rel => exact ⟨i + 1, by omega, by go_num, by rw [← HN.out]; exact HP.out.1, by rw [← HN.out]; exact hT2⟩
          case measure => simp [intOf]; omega
        obtain ⟨b, o, hao, c0, c1⟩ := (he.below hT.bel (Nat.le_refl _)) i hlt2
        obtain ⟨b', o', hao', d0, d1⟩ := (he.below hT.bel (Nat.le_refl _)) kk hkn
        rw [hao] at hao'
        simp only [Option.some.injEq, Addr.mk.injEq, and_true] at hao'
        obtain ⟨rfl, rfl⟩ := hao'
        subst hao
        have hd : decide ((kk : Int) < (j : Int)) = true := by simp; omega
        have hk1 : (0 : Int) ≤ (kk : Int) := by omega
        have hk2 : (kk : Int) < (j : Int) := by omega
        have hi1 : (0 : Int) ≤ (i : Int) := by omega
        have hi2 : (i : Int) < (j : Int) := by omega
        by_cases hL : L kk = L i
        rotate_left
        · have HN : Hid (pre = allT j L H (i + 1)) := (show pre = allT j L H (i + 1) from by rw [← HP.out.2, rowT_stop (by omega), List.append_nil])
          have hLd : decide (L kk = L i) = false := by simpa using hL
          go_wp2
          go_quiet (fail)
          have hT2 := hT.next (below_drewN (Below.refl wr.heap.size wr) nq)
          clear hT q1 c0 c1 d0 d1
          go_wp2
          go_roundw
          case rel => exact ⟨i + 1, by omega, by go_num, by rw [← HN.out]; exact HP.out.1, by rw [← HN.out]; exact hT2⟩
          case measure => simp [intOf]; omega
        have HT : Hid (TOk j L H (i, kk, fnd L H (H i) (H kk) j)) := tok_of HED.out HC.out.2 hik hkn hL
        have HGo : Hid (rowT j L H i (j - kk) kk = (i, kk, fnd L H (H i) (H kk) j) :: rowT j L H i (j - (kk + 1)) (kk + 1)) := rowT_go hkn hL
        rw [hL] at d0
        clear hL
        obtain ⟨E, hE⟩ : ∃ E, fnd L H (H i) (H kk) j = E := ⟨_, rfl⟩
        rw [hE] at HT HGo
        clear hE
        have hEj : E < j := HT.out.2.2.1
        have HEu : Hid (∀ q, q < j → L q = H i → H q = H kk → q = E) := fun q hq h1 h2 => ed_once HED.out hq hEj (by rw [h1]; exact HT.out.2.2.2.2.2.1.symm) (by rw [h2]; exact HT.out.2.2.2.2.2.2.symm)
        go_wp2
        go_quiet (fail)
        replace hT := hT.next (below_drewN (Below.refl wr.heap.size wr) nq).drew
        go_wp2_with fail
        go_region_held3 (fun w' => w'.cell? ⟨w.heap.size + 1, 1, none⟩ = some (.slice (some ⟨b, o, none⟩) j ecap) ∧ w'.cell? ⟨b, o + i * 2 + 1, none⟩ = some (.int .i64 (H i)) ∧ w'.cell? ⟨b, o + kk * 2 + 1, none⟩ = some (.int .i64 (H kk)))
          (first | (go_split_ands; refine ⟨?_, ?_, ?_⟩ <;> exact keep_cell hb3 (Nat.le_refl _) (by assumption)) | go_keep)
          (first | (go_at_call 54; refine (l4Find_is _ j _ L H _ _ E hEj HT.out.2.2.2.2.2.1 HT.out.2.2.2.2.2.2 HEu.out hm _ (he.below hT.bel (Nat.le_refl _))).mono ?_; rintro e w3 ⟨rfl, hb3⟩))
        replace hT := hT.next hb3
        clear hb3 q1 c0 c1 d0 d1
        have h0j : 0 < j := by omega
        obtain rfl := eU h0j
        obtain rfl := eV h0j
        obtain ⟨⟨SU, SD⟩, hS⟩ : ∃ S, runT (w0U n F T G P L H, w0D n F T G P L H) pre = S := ⟨_, rfl⟩
        have hin := runT_in (s := (w0U n F T G P L H, w0D n F T G P L H)) HIN.out.1 HIN.out.2 pre HP.out.1
        rw [hS] at hin hT
        have HS : Hid (runT (w0U n F T G P L H, w0D n F T G P L H) (pre ++ [(i, kk, E)]) = stT (SU, SD) (i, kk, E)) := by
          show _ = _
          rw [runT_snoc, hS]
        have HIN2 : Hid (InF j (stU (SU, SD) (i, kk, E)) ∧ InF j SD) := ⟨stU_in HT.out hin.1 hin.2, hin.2⟩
        clear hS
        have b0 : w3.cell? ⟨w.heap.size + 3, 0, none⟩ = some (.slice (some ⟨bU, 0, none⟩) j gc) := hT.box.cell (j := 0) (by omega)
        have b1 : w3.cell? ⟨w.heap.size + 3, 1, none⟩ = some (.slice (some ⟨bV, 0, none⟩) j hc) := hT.box.cell (j := 1) (by omega)
        have u0 : w3.cell? ⟨bU, E, none⟩ = some (.int .i64 (SU E)) := (hT.up h0j).cell hEj
        have u1 : w3.cell? ⟨bU, kk, none⟩ = some (.int .i64 (SU kk)) := (hT.up h0j).cell hkn
        have v0 : w3.cell? ⟨bV, i, none⟩ = some (.int .i64 (SD i)) := (hT.dn h0j).cell hlt2
        have z0 := (hT.up h0j).frozen E
        obtain ⟨c0, c1⟩ := hin.1 kk hkn
        obtain ⟨d0, d1⟩ := hin.2 i hlt2
        have he1 : (0 : Int) ≤ (E : Int) := by omega
        have he2 : (E : Int) < (j : Int) := by omega
        have PK : Hid (CT w (.slice po k pcap) (.slice (some ⟨b, o, none⟩) j ecap) (.slice (some ⟨bU, 0, none⟩) j gc) (.slice (some ⟨bV, 0, none⟩) j hc) j bU bV (SU, SD) w3) := hT
        clear hT hin
        go_wp2
        refine wp_region_last_lit 21 (by kernel_rfl) (by rfl) (by rfl) (by rfl) (by kernel_rfl) (by kernel_rfl) (by kernel_rfl) (by rfl) ?_
        simp only [List.take_succ_cons, List.take_zero, List.cons_append, List.nil_append]
        repeat (go_big_quiet_step (first | exact Calls.quiet_of_same (l1Add_any _ _ d0 d1 c0 c1 _) | exact Calls.quiet_of_same (l1Min_any _ _ _)))
        refine wpQuiet_nil ?_
        intro w7 hw7
        obtain ⟨nq, rfl⟩ := hw7
        have hT7 := PK.out.next (below_drewN (Below.refl w3.heap.size w3) nq)
        clear PK b0 b1 u0 u1 v0 z0
        generalize w3.drewN nq = W7 at hT7 ⊢
        have s0 : W7.cell? ⟨bU, E, none⟩ = some (.int .i64 (SU E)) := (hT7.up h0j).cell hEj
        have s1 := (hT7.up h0j).frozen E
        have R := hT7.setU lU hne E (min (SU E) (min 1000000000000 (SD i + SU kk))) (U' := stU (SU, SD) (i, kk, E)) (fun x hx => by unfold stU upT; rfl)
        clear hT7
        go_simp
        generalize W7.setCell ⟨bU, E, none⟩ (.int .i64 (min (SU E) (min 1000000000000 (SD i + SU kk)))) = W8 at R ⊢
        clear s0 s1
        have hT := R
        clear R
        have b0 : W8.cell? ⟨w.heap.size + 3, 0, none⟩ = some (.slice (some ⟨bU, 0, none⟩) j gc) := hT.box.cell (j := 0) (by omega)
        have b1 : W8.cell? ⟨w.heap.size + 3, 1, none⟩ = some (.slice (some ⟨bV, 0, none⟩) j hc) := hT.box.cell (j := 1) (by omega)
        have u0 : W8.cell? ⟨bV, E, none⟩ = some (.int .i64 (SD E)) := (hT.dn h0j).cell hEj
        have u1 : W8.cell? ⟨bV, kk, none⟩ = some (.int .i64 (SD kk)) := (hT.dn h0j).cell hkn
        have v0 : W8.cell? ⟨bU, i, none⟩ = some (.int .i64 (stU (SU, SD) (i, kk, E) i)) := (hT.up h0j).cell hlt2
        have z0 := (hT.dn h0j).frozen E
        replace c0 := (HIN2.out.2 kk hkn).1
        replace c1 := (HIN2.out.2 kk hkn).2
        replace d0 := (HIN2.out.1 i hlt2).1
        replace d1 := (HIN2.out.1 i hlt2).2
        have PK : Hid (CT w (.slice po k pcap) (.slice (some ⟨b, o, none⟩) j ecap) (.slice (some ⟨bU, 0, none⟩) j gc) (.slice (some ⟨bV, 0, none⟩) j hc) j bU bV (stU (SU, SD) (i, kk, E), SD) W8) := hT
        clear hT
        obtain ⟨SU', hSU⟩ : ∃ f, stU (SU, SD) (i, kk, E) = f := ⟨_, rfl⟩
        rw [hSU] at v0 d0 d1 PK HIN2
        have HST : Hid (stT (SU, SD) (i, kk, E) = (SU', fun x => if x = E then min (SD E) (min 1000000000000 (SD kk + SU' i)) else SD x)) := by
          show _ = _
          unfold stT dnT
          rw [hSU]
        clear hSU
        go_wp2
        refine wp_region_last_lit 21 (by kernel_rfl) (by rfl) (by rfl) (by rfl) (by kernel_rfl) (by kernel_rfl) (by kernel_rfl) (by rfl) ?_
        simp only [List.take_succ_cons, List.take_zero, List.cons_append, List.nil_append]
        repeat (go_big_quiet_step (first | exact Calls.quiet_of_same (l1Add_any _ _ c0 c1 d0 d1 _) | exact Calls.quiet_of_same (l1Min_any _ _ _)))
        refine wpQuiet_nil ?_
        intro w7 hw7
        obtain ⟨nq, rfl⟩ := hw7
        have hT7 := PK.out.next (below_drewN (Below.refl W8.heap.size W8) nq)
        clear PK b0 b1 u0 u1 v0 z0
        generalize W8.drewN nq = W9 at hT7 ⊢
        have s0 : W9.cell? ⟨bV, E, none⟩ = some (.int .i64 (SD E)) := (hT7.dn h0j).cell hEj
        have s1 := (hT7.dn h0j).frozen E
        have R := hT7.setD lV hne E (min (SD E) (min 1000000000000 (SD kk + SU' i))) (D' := fun x => if x = E then min (SD E) (min 1000000000000 (SD kk + SU' i)) else SD x) (fun x hx => rfl)
        rw [← HST.out, ← HS.out] at R
        clear hT7
        go_simp
        go_wp2
        go_roundw
        case rel => exact ⟨kk + 1, pre ++ [(i, kk, E)], by omega, by omega, by go_num, fun t ht => by
          rcases List.mem_append.1 ht with ht | ht
          · exact HP.out.1 t ht
          · rw [List.mem_singleton.1 ht]; exact HT.out, by rw [← HP.out.2, HGo.out]; simp, R⟩
        case measure => simp [intOf]; omega
theorem l5Customize_any (p : Int) (ao : Option Addr) (n cap : Nat) (F T G : Nat → Int) (po : Option Addr) (k pcap : Nat) (P : Nat → Int) (eo : Option Addr) (m ecap : Nat) (L H : Nat → Int) (hn : n ≤ 1048576) (hm : m ≤ 1048576) (hk : k ≤ 1048576) (hg : arcsB p F T G n = true) (hC : Chd (k : Int) m L H) (w : World) (hr : Row w ao n F T G) (hp : IRow w po k P) (he : ERow w eo m L H) :
    Calls Tryz.prog 32 #[.agg #[.int .i64 p, .slice ao n cap], .agg #[.slice po k pcap, .slice eo m ecap]] w fun e w' => MAns w w' e m (runT (w0U n F T G P L H, w0D n F T G P L H) (allT m L H m)).1 (runT (w0U n F T G P L H, w0D n F T G P L H) (allT m L H m)).2 :=
  (l5Customize_own p ao n cap F T G po k pcap P eo m ecap L H hn hm hk hg hC w hr hp he).mono fun _ _ h => mans_of h

end Go.Proofs.YtokaechbmnbbiabGreat
