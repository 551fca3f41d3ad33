/-
  The document's Route.
-/
import Derived.Test.YtokaechbmnbbiabGreatRtRP
import Derived.Test.YtokaechbmnbbiabGreatRtIP
import Derived.Test.YtokaechbmnbbiabGreatRecLP
import Derived.Test.YtokaechbmnbbiabGreatMtgTP
import Derived.Test.YtokaechbmnbbiabGreatPack3
set_option linter.unusedVariables false
set_option linter.unusedSimpArgs false
namespace Go.Proofs.YtokaechbmnbbiabGreat
open Go.RowKit Go.Maps Go.Deep Go.Joins
attribute [local go_sem ↓] Go.wp_at_zero Go.wp_at_succ

set_option maxRecDepth 100000 in
set_option maxHeartbeats 16000000 in
theorem specRoute_any (p : Int) (ao : Option Addr) (n cap : Nat) (F T G : Nat → Int) (po : Option Addr) (k pcap : Nat) (P : Nat → Int) (eo : Option Addr) (m ecap : Nat) (L H : Nat → Int) (uo : Option Addr) (u ucap : Nat) (U : Nat → Int) (vo : Option Addr) (v vcap : Nat) (V : Nat → Int) (a b : Int) (hn : n ≤ 1048576) (hk : k ≤ 1048576) (hm : m ≤ 1048576) (hu : u ≤ 1048576) (hv : v ≤ 1048576) (w : World) (hr : Row w ao n F T G) (hp : IRow w po k P) (he : ERow w eo m L H) (hU : IRow w uo u U) (hV : IRow w vo v V) :
    Calls Tryz.prog 24 #[.agg #[.int .i64 p, .slice ao n cap], .agg #[.slice po k pcap, .slice eo m ecap], .agg #[.slice uo u ucap, .slice vo v vcap], .int .i64 a, .int .i64 b] w fun e w' => RtAns w w' e (rtA p n F T G k P m L H u U v V a b) := by
  have B0 := u6_new w (p := p) (ao := ao) (n := n) (cap := cap) (po := po) (k := k) (pcap := pcap) (eo := eo) (m := m) (ecap := ecap) (uo := uo) (u := u) (ucap := ucap) (vo := vo) (v := v) (vcap := vcap)
  have HI := fun W h1 h2 h3 h4 h5 => l5Is_any p ao n cap F T G po k pcap P eo m ecap L H uo u ucap U vo v vcap V hn hk hm hu hv W h1 h2 h3 h4 h5
  go_enter Tryz.func24, Tryz.ntmps24
  go_wp2_with fail
  generalize (((w.alloc (.cells #[.int .i64 p, .slice ao n cap] 26)).alloc (.cells #[.slice po k pcap, .slice eo m ecap] 30)).alloc (.cells #[.slice uo u ucap, .slice vo v vcap] 34)) = W0 at B0 ⊢
  refine (HI _ (hr.below B0.bel (Nat.le_refl _)) (hp.below B0.bel (Nat.le_refl _)) (he.below B0.bel (Nat.le_refl _)) (hU.below B0.bel (Nat.le_refl _)) (hV.below B0.bel (Nat.le_refl _))).mono ?_
  clear HI
  rintro e w1 ⟨⟨bc, rfl, hbc⟩, hb1⟩
  have B1 := B0.next hb1
  cases bc
  · have hno : rtA p n F T G k P m L H u U v V a b = ([], 1000000000000) := by
      unfold rtA
      rw [if_neg (fun h => by have := hbc.2 h.1; simp at this)]
    go_wp2
    refine bodyPost_ret (v := .tuple #[.slice (some ⟨_, 0, none⟩) 0 0, .int .i64 1000000000000]) (by simp [results, Tryz.results24, go_sem]; rfl) rfl ?_
    rw [hno]
    exact rtans_none (B1.bel.alloc B1.bel.size _)
  have hC : IsC p n F T G k P m L H u U v V := hbc.1 rfl
  clear hbc hb1 B0
  have HKP : Hid ((k : Int) = p) := (ordB_parts hC.1.1).1
  have hk1 : IntKind.i64.wrap ((k : Int) - 1) = (k : Int) - 1 := by rw [IntKind.wrap_i64]; omega
  go_wp2_with fail
  refine (l1In_any a 0 _ _).mono ?_
  rintro e w2 ⟨rfl, hq⟩
  subst hq
  rcases Bool.eq_false_or_eq_true (inB a 0 ((k : Int) - 1)) with hia | hia
  rotate_left
  · have hno : rtA p n F T G k P m L H u U v V a b = ([], 1000000000000) := by
      unfold rtA
      rw [if_neg (fun h => by have := h.2.1; unfold RIn at this; simp [inB] at hia; omega)]
    rw [hia]
    go_wp2
    refine bodyPost_ret (v := .tuple #[.slice (some ⟨_, 0, none⟩) 0 0, .int .i64 1000000000000]) (by simp [results, Tryz.results24, go_sem]; rfl) rfl ?_
    rw [hno]
    exact rtans_none (B1.bel.alloc B1.bel.size _)
  rw [hia]
  go_wp2_with fail
  refine (l1In_any b 0 _ _).mono ?_
  rintro e w3 ⟨rfl, hq⟩
  subst hq
  rcases Bool.eq_false_or_eq_true (inB b 0 ((k : Int) - 1)) with hib | hib
  rotate_left
  · have hno : rtA p n F T G k P m L H u U v V a b = ([], 1000000000000) := by
      unfold rtA
      rw [if_neg (fun h => by have := h.2.2; unfold RIn at this; simp [inB] at hib; omega)]
    rw [hib]
    go_wp2
    refine bodyPost_ret (v := .tuple #[.slice (some ⟨_, 0, none⟩) 0 0, .int .i64 1000000000000]) (by simp [results, Tryz.results24, go_sem]; rfl) rfl ?_
    rw [hno]
    exact rtans_none (B1.bel.alloc B1.bel.size _)
  rw [hib]
  have hRa : RIn k a := by unfold RIn; simp [inB] at hia; omega
  have hRb : RIn k b := by unfold RIn; simp [inB] at hib; omega
  have q2 := B1.h0
  clear hia hib
  go_wp2_with fail
  have he24 := ordB_parts hC.1.1
  have hokr : okR k P = true := by
    simp [okR, he24.2.2.2]
    omega
  refine (l3Ranks_any po k pcap P (by omega) he24.2.2.2 w3 (hp.below B1.bel (Nat.le_refl _))).mono ?_
  clear q2
  rintro e w4 ⟨rfl, hX7, b7⟩
  have B4 := B1.next b7
  obtain ⟨an, rfl⟩ : ∃ an : Nat, a = (an : Int) := ⟨a.toNat, by have := hRa.1; omega⟩
  obtain ⟨bn, rfl⟩ : ∃ bn : Nat, b = (bn : Int) := ⟨b.toNat, by have := hRb.1; omega⟩
  have han : an < k := by have := hRa.2; omega
  have hbn : bn < k := by have := hRb.2; omega
  have hka := rk_in hokr han
  have hkb := rk_in hokr hbn
  obtain ⟨ra, hra⟩ : ∃ ra : Nat, rk P (-1) k an = (ra : Int) := ⟨(rk P (-1) k an).toNat, by omega⟩
  obtain ⟨rb, hrb⟩ : ∃ rb : Nat, rk P (-1) k bn = (rb : Int) := ⟨(rk P (-1) k bn).toNat, by omega⟩
  have ka : w4.cell? ⟨w3.heap.size, an, none⟩ = some (.int .i64 (ra : Int)) := by
    have := hX7.cell han
    rw [rk_same P 0 (-1) k an (each_all he24.2.2.2 an han), hra] at this
    exact this
  have kb : w4.cell? ⟨w3.heap.size, bn, none⟩ = some (.int .i64 (rb : Int)) := by
    have := hX7.cell hbn
    rw [rk_same P 0 (-1) k bn (each_all he24.2.2.2 bn hbn), hrb] at this
    exact this
  rw [hra] at hka
  rw [hrb] at hkb
  have hka' : (an : Int) < (k : Int) := by omega
  have hkb' : (bn : Int) < (k : Int) := by omega
  have q0 := B4.g0
  have q1 := B4.g1
  have q2 := B4.h0
  have q3 := B4.h1
  have q4 : w4.cell? ⟨w.heap.size + 1 + 1, 0, none⟩ = some (.slice uo u ucap) := B4.m0
  have q5 : w4.cell? ⟨w.heap.size + 1 + 1, 1, none⟩ = some (.slice vo v vcap) := B4.m1
  clear hX7 he24
  go_wp2_with fail
  have hyes : rtA p n F T G k P m L H u U v V (an : Int) (bn : Int) = rtC p n F T G k P (an : Int) (bn : Int) := by
    unfold rtA
    rw [if_pos ⟨hC, hRa, hRb⟩]
  obtain ⟨hH, ⟨eu, hsU2⟩, ⟨ev, hsV2⟩⟩ := hC
  obtain ⟨hlen, heq⟩ := hok_len hH
  have he2 : ERow w eo m (Lf (lstF p n F T P)) (Hf (lstF p n F T P)) := he.congr (fun i hi => (heq i hi).1) (fun i hi => (heq i hi).2)
  subst eu
  subst ev
  have hU2 : IRow w uo m (cusT p n F T G P).1 := fun j hj => by
    obtain ⟨b, o, e, h⟩ := hU j hj
    exact ⟨b, o, e, by rw [hsU2 j hj]; exact h⟩
  have hV2 : IRow w vo m (cusT p n F T G P).2 := fun j hj => by
    obtain ⟨b, o, e, h⟩ := hV j hj
    exact ⟨b, o, e, by rw [hsV2 j hj]; exact h⟩
  have D := gd_can hH.1
  have CE := cenv_of hH.1
  have hed : edB (k : Int) (Lf (lstF p n F T P)) (Hf (lstF p n F T P)) (lstF p n F T P).length = true := CE.ed
  have htold : TOld k (lstF p n F T P).length (Lf (lstF p n F T P)) (Hf (lstF p n F T P)) (lstF p n F T P).length (cusT p n F T G P).1 (lstF p n F T P).length (cusT p n F T G P).2 := by
    have := mok_can hH.1
    exact ⟨this.1.1, rfl, rfl, this.2.2.2.1, this.2.2.2.2.1⟩
  have hAns : rtC p n F T G k P (an : Int) (bn : Int) = if (mt (cl (Lf (lstF p n F T P)) (Hf (lstF p n F T P)) (cusT p n F T G P).1 ra m) (cl (Lf (lstF p n F T P)) (Hf (lstF p n F T P)) (cusT p n F T G P).2 rb m) k).2 = 1000000000000 then ([], 1000000000000) else (rtW (netOf n F T G P m (Lf (lstF p n F T P)) (Hf (lstF p n F T P)) (cusT p n F T G P).1 (cusT p n F T G P).2) (Lf (lstF p n F T P)) (Hf (lstF p n F T P)) (an : Int) (rtSt (Lf (lstF p n F T P)) (Hf (lstF p n F T P)) (cusT p n F T G P).1 (cusT p n F T G P).2 m ra rb (mt (cl (Lf (lstF p n F T P)) (Hf (lstF p n F T P)) (cusT p n F T G P).1 ra m) (cl (Lf (lstF p n F T P)) (Hf (lstF p n F T P)) (cusT p n F T G P).2 rb m) k).1.toNat), (mt (cl (Lf (lstF p n F T P)) (Hf (lstF p n F T P)) (cusT p n F T G P).1 ra m) (cl (Lf (lstF p n F T P)) (Hf (lstF p n F T P)) (cusT p n F T G P).2 rb m) k).2) := by
    unfold rtC cn
    simp only [Int.toNat_natCast, hra, hrb, ← hlen]
  rw [← hlen] at D htold hed
  have HY : Hid (rtA p n F T G k P m L H m U m V (an : Int) (bn : Int) = rtC p n F T G k P (an : Int) (bn : Int)) := hyes
  clear hyes hsU2 hsV2 heq CE hlen hU hV he hRa hRb
  generalize (cusT p n F T G P).1 = Uc at hU2 D htold hAns
  generalize (cusT p n F T G P).2 = Vc at hV2 D htold hAns
  generalize Lf (lstF p n F T P) = Lc at he2 D htold hed hAns
  generalize Hf (lstF p n F T P) = Hc at he2 D htold hed hAns
  have hIU : InF m Uc := htold.2.2.2.1
  have hIV : InF m Vc := htold.2.2.2.2
  have HE : Hid (∀ i, i < m → 0 ≤ Lc i ∧ Lc i < Hc i ∧ Hc i < (k : Int)) := D.ed
  have CU : Clb k m Lc Hc Uc ra (cl Lc Hc Uc ra m) := clb_cl hed HE.out hIU
  have CV : Clb k m Lc Hc Vc rb (cl Lc Hc Vc rb m) := clb_cl hed HE.out hIV
  have hran : ra < k := by omega
  have hrbn : rb < k := by omega
  have hk24 : k ≤ 24 := by have := (ordB_parts hH.1).2.2.1; omega
  have HMT : Hid (∀ W, Below w4.heap.size w4 W → Calls Tryz.prog 74 #[.agg #[.slice po k pcap, .slice eo m ecap], .agg #[.slice uo m ucap, .slice vo m vcap], .int .i64 (ra : Int), .int .i64 (rb : Int)] W fun e w' => e = .returned (.tuple #[.int .i64 (mt (cl Lc Hc Uc ra m) (cl Lc Hc Vc rb m) k).1, .int .i64 (mt (cl Lc Hc Uc ra m) (cl Lc Hc Vc rb m) k).2]) ∧ Below W.heap.size W w') := fun W hA => l6Meet_any po k pcap eo m ecap Lc Hc uo ucap Uc vo vcap Vc ra rb htold hran hrbn hm W (he2.below (below_next B4.bel (Nat.le_refl _) hA) (Nat.le_refl _)) (hU2.below (below_next B4.bel (Nat.le_refl _) hA) (Nat.le_refl _)) (hV2.below (below_next B4.bel (Nat.le_refl _) hA) (Nat.le_refl _))
  obtain ⟨⟨tp, sm⟩, hts⟩ : ∃ M, mt (cl Lc Hc Uc ra m) (cl Lc Hc Vc rb m) k = M := ⟨_, rfl⟩
  have hmti := mt_is (A := cl Lc Hc Uc ra m) (B := cl Lc Hc Vc rb m) k
  rw [hts] at HMT hAns hmti
  simp only at HMT hAns
  clear hts hka hkb
  have hdr := (Below.refl w4.heap.size w4).drew
  replace q2 := keep_cell hdr (Nat.le_refl _) q2
  replace q3 := keep_cell hdr (Nat.le_refl _) q3
  have q4' : w4.drew.cell? ⟨w.heap.size + 1 + 1, 0, none⟩ = some (.slice uo m ucap) := keep_cell hdr (Nat.le_refl _) q4
  have q5' : w4.drew.cell? ⟨w.heap.size + 1 + 1, 1, none⟩ = some (.slice vo m vcap) := keep_cell hdr (Nat.le_refl _) q5
  have ka2 := keep_cell hdr (Nat.le_refl _) ka
  have kb2 := keep_cell hdr (Nat.le_refl _) kb
  go_region_held3 (fun w' => w'.cell? ⟨w.heap.size + 1, 0, none⟩ = some (.slice po k pcap) ∧ w'.cell? ⟨w.heap.size + 1, 1, none⟩ = some (.slice eo m ecap) ∧ w'.cell? ⟨w.heap.size + 1 + 1, 0, none⟩ = some (.slice uo m ucap) ∧ w'.cell? ⟨w.heap.size + 1 + 1, 1, none⟩ = some (.slice vo m vcap) ∧ w'.cell? ⟨w3.heap.size, an, none⟩ = some (.int .i64 (ra : Int)) ∧ w'.cell? ⟨w3.heap.size, bn, none⟩ = some (.int .i64 (rb : Int)))
    (first | (refine ⟨?_, ?_, ?_, ?_, ?_, ?_⟩; exact keep_cell b5 (Nat.le_refl _) q2; exact keep_cell b5 (Nat.le_refl _) q3; exact keep_cell b5 (Nat.le_refl _) q4'; exact keep_cell b5 (Nat.le_refl _) q5'; exact keep_cell b5 (Nat.le_refl _) ka2; exact keep_cell b5 (Nat.le_refl _) kb2) | go_keep)
    (first | (go_at_call 74; with_reducible refine (HMT.out _ hdr).mono ?_; rintro e w5 ⟨rfl, b5⟩))
  have B5 := (B4.next hdr).next b5
  have hs5 := (below_next hdr (Nat.le_refl _) b5).size
  have h34 := b7.size
  replace ka := keep_cell b5 (Nat.le_refl _) ka2
  replace kb := keep_cell b5 (Nat.le_refl _) kb2
  have hrl := lt_of_cell ka2
  clear q0 q1 q2 q3 q4 q5 q4' q5' ka2 kb2 hdr HMT B4 B1 b7
  have hAq := hAns
  clear hAns
  rcases hmti with hno | ⟨tn, htn, hmt, hsl⟩
  · simp only [Prod.mk.injEq] at hno
    obtain ⟨rfl, rfl⟩ := hno
    rw [if_pos rfl] at hAq
    go_wp2
    refine bodyPost_ret (v := .tuple #[.slice (some ⟨_, 0, none⟩) 0 0, .int .i64 1000000000000]) (by simp [results, Tryz.results24, go_sem]; rfl) rfl ?_
    rw [HY.out, hAq]
    exact rtans_none (B5.bel.alloc B5.bel.size _)
  simp only [Prod.mk.injEq] at hmt
  obtain ⟨rfl, hsm⟩ := hmt
  rw [← hsm] at hsl
  have hcd : cl Lc Hc Uc ra m tn < 1000000000000 ∧ cl Lc Hc Vc rb m tn < 1000000000000 := by
    have h1 := CU.inn tn
    have h2 := CV.inn tn
    omega
  clear hsm
  have hsm9 : ¬ (sm = 1000000000000) := by omega
  rw [if_neg hsm9, Int.toNat_natCast] at hAq
  have htn0 : ¬ ((tn : Int) < 0) := by omega
  have q0 := B5.g0
  have q1 := B5.g1
  have q2 := B5.h0
  have q3 := B5.h1
  have q4 : w5.cell? ⟨w.heap.size + 1 + 1, 0, none⟩ = some (.slice uo m ucap) := B5.m0
  have q5 : w5.cell? ⟨w.heap.size + 1 + 1, 1, none⟩ = some (.slice vo m vcap) := B5.m1
  have NR : NRows w5 ao n F T G po k P eo m Lc Hc uo Uc vo Vc := ⟨hr.below B5.bel (Nat.le_refl _), hp.below B5.bel (Nat.le_refl _), he2.below B5.bel (Nat.le_refl _), hU2.below B5.bel (Nat.le_refl _), hV2.below B5.bel (Nat.le_refl _)⟩
  obtain ⟨S, XU, XV, NU, NV, hXU, hXV, hWay, PL⟩ := rt_plan CU CV HE.out (top := tn) (by omega) (netOf n F T G P m Lc Hc Uc Vc) (an : Int)
  rw [hWay] at hAq
  have HCU : Hid (∀ W, Below w5.heap.size w5 W → Calls Tryz.prog 76 #[.agg #[.slice po k pcap, .slice eo m ecap], .agg #[.slice uo m ucap, .slice vo m vcap], .int .i64 (ra : Int), .bool false] W fun e w' => ∃ g cap', e = .returned (.slice (some ⟨g, 0, none⟩) k cap') ∧ W.heap.size ≤ g ∧ IHas w' g k (cl Lc Hc Uc ra m) ∧ Below W.heap.size W w') := fun W hA => l6Climb_any po k pcap eo m ecap Lc Hc uo ucap Uc vo vcap Vc ra false htold hran hm W (NR.eds.below hA (Nat.le_refl _)) (NR.up.below hA (Nat.le_refl _)) (NR.dn.below hA (Nat.le_refl _))
  have HCV : Hid (∀ W, Below w5.heap.size w5 W → Calls Tryz.prog 76 #[.agg #[.slice po k pcap, .slice eo m ecap], .agg #[.slice uo m ucap, .slice vo m vcap], .int .i64 (rb : Int), .bool true] W fun e w' => ∃ g cap', e = .returned (.slice (some ⟨g, 0, none⟩) k cap') ∧ W.heap.size ≤ g ∧ IHas w' g k (cl Lc Hc Vc rb m) ∧ Below W.heap.size W w') := fun W hA => l6Climb_any po k pcap eo m ecap Lc Hc uo ucap Uc vo vcap Vc rb true htold hrbn hm W (NR.eds.below hA (Nat.le_refl _)) (NR.up.below hA (Nat.le_refl _)) (NR.dn.below hA (Nat.le_refl _))
  have HHU : Hid (∀ W g c, Below w5.heap.size w5 W → IHas W g k (cl Lc Hc Uc ra m) → Calls Tryz.prog 75 #[.agg #[.slice po k pcap, .slice eo m ecap], .slice uo m ucap, .slice (some ⟨g, 0, none⟩) k c, .int .i64 (ra : Int), .int .i64 (tn : Int)] W fun e w' => ∃ g c, e = .returned (.slice (some ⟨g, 0, none⟩) (NU + 1) c) ∧ LOwn w' W.heap.size (some ⟨g, 0, none⟩) c XU ∧ Below W.heap.size W w') := by
    have hl := PL.lu
    subst hXU
    rw [← hl]
    exact fun W g c hA hI => l7Chain_any po k pcap eo m ecap Lc Hc uo ucap Uc (some ⟨g, 0, none⟩) c (cl Lc Hc Uc ra m) ra tn CU hk24 hm htn hcd.1 W (NR.eds.below hA (Nat.le_refl _)) (NR.up.below hA (Nat.le_refl _)) hI.row
  have HHV : Hid (∀ W g c, Below w5.heap.size w5 W → IHas W g k (cl Lc Hc Vc rb m) → Calls Tryz.prog 75 #[.agg #[.slice po k pcap, .slice eo m ecap], .slice vo m vcap, .slice (some ⟨g, 0, none⟩) k c, .int .i64 (rb : Int), .int .i64 (tn : Int)] W fun e w' => ∃ g c, e = .returned (.slice (some ⟨g, 0, none⟩) (NV + 1) c) ∧ LOwn w' W.heap.size (some ⟨g, 0, none⟩) c XV ∧ Below W.heap.size W w') := by
    have hl := PL.lv
    subst hXV
    rw [← hl]
    exact fun W g c hA hI => l7Chain_any po k pcap eo m ecap Lc Hc vo vcap Vc (some ⟨g, 0, none⟩) c (cl Lc Hc Vc rb m) rb tn CV hk24 hm htn hcd.2 W (NR.eds.below hA (Nat.le_refl _)) (NR.dn.below hA (Nat.le_refl _)) hI.row
  have HUP : Hid (∀ W (lo hi : Nat) (up : Bool), Below w5.heap.size w5 W → hsB m Lc Hc lo hi = true → lo < hi → hi < k → Calls Tryz.prog 77 #[.agg #[.int .i64 p, .slice ao n cap], .agg #[.slice po k pcap, .slice eo m ecap], .agg #[.slice uo m ucap, .slice vo m vcap], .int .i64 (lo : Int), .int .i64 (hi : Int), .bool up] W fun e w' => ∃ g c, e = .returned (.slice (some ⟨g, 0, none⟩) (((netOf n F T G P m Lc Hc Uc Vc).wy lo hi up).length + 1) c) ∧ LOwn w' W.heap.size (some ⟨g, 0, none⟩) c (P (frR lo hi up) :: (netOf n F T G P m Lc Hc Uc Vc).wy lo hi up) ∧ Below W.heap.size W w') := fun W lo hi up hA h1 h2 h3 => l7Unpack_any p ao n cap F T G po k pcap P eo m ecap Lc Hc uo ucap Uc vo vcap Vc D.hn (by omega) hm (k : Int) hed D.arcs hIU hIV lo hi up W (NR.below hA (Nat.le_refl _)) h1 h2 h3 (by omega)
  clear hXU hXV hWay CU CV HE hed htold hIU hIV D NR hH hU2 hV2 he2 hcd
  generalize (netOf n F T G P m Lc Hc Uc Vc) = N at HUP hAq PL
  have AQ : Hid (rtC p n F T G k P (an : Int) (bn : Int) = ((an : Int) :: N.rest S, sm)) := hAq
  have PLH : Hid (Plan k m Lc Hc N S XU XV NU NV) := PL
  have hNU := PL.bu
  have hNV := PL.bv
  clear hAq
  generalize cl Lc Hc Uc ra m = DU at HCU HHU
  generalize cl Lc Hc Vc rb m = DV at HCV HHV
  have HKA : Hid (w5.cell? ⟨w3.heap.size, an, none⟩ = some (.int .i64 (ra : Int))) := ka
  have HKB : Hid (w5.cell? ⟨w3.heap.size, bn, none⟩ = some (.int .i64 (rb : Int))) := kb
  have hb6 := (Below.refl w5.heap.size w5).alloc (Nat.le_refl _) (.cells #[.int .i64 (an : Int)] 2)
  have B6 := B5.next hb6
  have O6 := lown_lit1 w5 (base := w5.heap.size) (an : Int) (Nat.le_refl _)
  have h35 : w.heap.size + 3 ≤ w5.heap.size := B5.sz
  clear PL ka kb q0 q1 q2 q3 q4 q5
  go_wp2_with fail
  have hs6 : (w5.alloc (.cells #[.int .i64 (an : Int)] 2)).heap.size = w5.heap.size + 1 := by simp
  generalize (w5.alloc (.cells #[.int .i64 (an : Int)] 2)) = Y at hb6 B6 O6 hs6 ⊢
  obtain ⟨ob, hob⟩ : ∃ ob, w5.heap.size = ob := ⟨_, rfl⟩
  simp only [hob] at hs6 h35 ⊢
  rw [hob] at O6
  clear b5
  have hdr := (Below.refl Y.heap.size Y).drew
  have hdA := below_next hb6 (Nat.le_refl _) hdr
  have q2 := (B6.next hdr).h0
  have q3 := (B6.next hdr).h1
  have q4 : Y.drew.cell? ⟨w.heap.size + 1 + 1, 0, none⟩ = some (.slice uo m ucap) := (B6.next hdr).m0
  have q5 : Y.drew.cell? ⟨w.heap.size + 1 + 1, 1, none⟩ = some (.slice vo m vcap) := (B6.next hdr).m1
  have ka := keep_cell hdA (Nat.le_refl _) HKA.out
  have kb := keep_cell hdA (Nat.le_refl _) HKB.out
  clear B5
  go_region_held3 (fun w' => w'.cell? ⟨w.heap.size + 1, 0, none⟩ = some (.slice po k pcap) ∧ w'.cell? ⟨w.heap.size + 1, 1, none⟩ = some (.slice eo m ecap) ∧ w'.cell? ⟨w.heap.size + 1 + 1, 0, none⟩ = some (.slice uo m ucap) ∧ w'.cell? ⟨w.heap.size + 1 + 1, 1, none⟩ = some (.slice vo m vcap) ∧ w'.cell? ⟨w3.heap.size, an, none⟩ = some (.int .i64 (ra : Int)) ∧ w'.cell? ⟨w3.heap.size, bn, none⟩ = some (.int .i64 (rb : Int)))
    (first | (refine ⟨?_, ?_, ?_, ?_, ?_, ?_⟩; exact keep_cell hA2 (Nat.le_refl _) q2; exact keep_cell hA2 (Nat.le_refl _) q3; exact keep_cell hA2 (Nat.le_refl _) q4; exact keep_cell hA2 (Nat.le_refl _) q5; exact keep_cell hA2 (Nat.le_refl _) ka; exact keep_cell hA2 (Nat.le_refl _) kb) | (refine ⟨?_, ?_, ?_, ?_, ?_, ?_⟩; exact keep_cell hA1 (Nat.le_refl _) q2; exact keep_cell hA1 (Nat.le_refl _) q3; exact keep_cell hA1 (Nat.le_refl _) q4; exact keep_cell hA1 (Nat.le_refl _) q5; exact keep_cell hA1 (Nat.le_refl _) ka; exact keep_cell hA1 (Nat.le_refl _) kb) | go_keep)
    (first
      | (go_at_call 76; with_reducible refine (HCU.out _ hdA).mono ?_; rintro e v1 ⟨gd, cd, rfl, hgd, iD, bA⟩; have hA1 : Below Y.drew.heap.size Y.drew v1 := bA)
      | (go_at_call 75; with_reducible refine (HHU.out _ gd cd (below_next hdA (Nat.le_refl _) bA) iD).mono ?_; rintro e v2 ⟨gu, cu, rfl, Ou, bB⟩; have hA2 := below_next hA1 (Nat.le_refl _) bB))
  have hYv := below_next hdr (Nat.le_refl _) hA2
  have hgu := Ou.at (x := gu) rfl
  have hsz1 := hdr.size
  have hsz2 := bA.size
  have K0 : RtK w w5 v2 p ao n cap po k pcap eo m ecap uo ucap vo vcap ob 1 [(an : Int)] gu cu XU := ⟨B6.next hYv, below_next hb6 (Nat.le_refl _) hYv, (by rw [hob]; exact O6.next hYv), Ou.from (by rw [hob]; omega), by omega, by rw [hob]; exact h35⟩
  clear q2 q3 q4 q5 ka kb hdr hdA hA1 hA2 hYv B6 O6 Ou hb6 iD bA bB hgu hsz1 hsz2 hs6 hgd
  go_wp2_with fail
  go_loopw [16, 18] (fun z16 z18 wr => ∃ (j g c : Nat) (l : List Int), j ≤ NU ∧ l = (an : Int) :: N.rest (S.take j) ∧ z16 = .slice (some ⟨g, 0, none⟩) l.length c ∧ z18 = .int .i64 ((j : Int) + 1) ∧ RtK w w5 wr p ao n cap po k pcap eo m ecap uo ucap vo vcap g c l gu cu XU) (fun _ z18 _ => NU + 2 - (intOf z18).toNat)
  case atStart => exact ⟨0, _, 1, _, by omega, by simp [Net.rest], rfl, by simp, K0⟩
  case round =>
    clear K0
    obtain ⟨j, g, c, l, hj, hl, rfl, rfl, K⟩ := hrel
    by_cases hjn : j < NU
    rotate_left
    · obtain rfl : j = NU := by omega
      have hc1 : ¬ ((j : Int) + 1 < ((j : Int) + 1)) := by omega
      have hdr := (Below.refl wr.heap.size wr).drew
      have K1 := K.next hdr
      have q2 := K1.box.h0
      have q3 := K1.box.h1
      have q4 : wr.drew.cell? ⟨w.heap.size + 1 + 1, 0, none⟩ = some (.slice uo m ucap) := K1.box.m0
      have q5 : wr.drew.cell? ⟨w.heap.size + 1 + 1, 1, none⟩ = some (.slice vo m vcap) := K1.box.m1
      have ka := keep_cell K1.old (Nat.le_refl _) HKA.out
      have kb := keep_cell K1.old (Nat.le_refl _) HKB.out
      have hv0 : IntKind.i64.wrap (NV : Int) = (NV : Int) := by rw [IntKind.wrap_i64]; omega
      have hv1 : IntKind.i64.wrap ((NV : Int) + 1 - 1) = (NV : Int) := by rw [IntKind.wrap_i64]; omega
      have HLL : Hid (l = (an : Int) :: N.rest (S.take j)) := hl
      clear hl K
      go_wp2_with fail
      go_region_held3 (fun w' => w'.cell? ⟨w.heap.size + 1, 0, none⟩ = some (.slice po k pcap) ∧ w'.cell? ⟨w.heap.size + 1, 1, none⟩ = some (.slice eo m ecap) ∧ w'.cell? ⟨w.heap.size + 1 + 1, 0, none⟩ = some (.slice uo m ucap) ∧ w'.cell? ⟨w.heap.size + 1 + 1, 1, none⟩ = some (.slice vo m vcap) ∧ w'.cell? ⟨w3.heap.size, an, none⟩ = some (.int .i64 (ra : Int)) ∧ w'.cell? ⟨w3.heap.size, bn, none⟩ = some (.int .i64 (rb : Int)))
        (first | (refine ⟨?_, ?_, ?_, ?_, ?_, ?_⟩; exact keep_cell hA2 (Nat.le_refl _) q2; exact keep_cell hA2 (Nat.le_refl _) q3; exact keep_cell hA2 (Nat.le_refl _) q4; exact keep_cell hA2 (Nat.le_refl _) q5; exact keep_cell hA2 (Nat.le_refl _) ka; exact keep_cell hA2 (Nat.le_refl _) kb) | (refine ⟨?_, ?_, ?_, ?_, ?_, ?_⟩; exact keep_cell hA1 (Nat.le_refl _) q2; exact keep_cell hA1 (Nat.le_refl _) q3; exact keep_cell hA1 (Nat.le_refl _) q4; exact keep_cell hA1 (Nat.le_refl _) q5; exact keep_cell hA1 (Nat.le_refl _) ka; exact keep_cell hA1 (Nat.le_refl _) kb) | go_keep)
        (first
          | (go_at_call 76; with_reducible refine (HCV.out _ K1.old).mono ?_; rintro e v1 ⟨ge, ce, rfl, hge, iD, bA⟩; have hA1 : Below wr.drew.heap.size wr.drew v1 := bA)
          | (go_at_call 75; with_reducible refine (HHV.out _ ge ce (below_next K1.old (Nat.le_refl _) bA) iD).mono ?_; rintro e v4 ⟨gv, cv, rfl, Ov, bB⟩; have hA2 := below_next hA1 (Nat.le_refl _) bB))
      have hgv := Ov.at (x := gv) rfl
      have hg1 := K1.own.at (x := g) rfl
      have hsz2 := bA.size
      have hsz3 := K1.old.size
      have KK := K1.next hA2
      have K0 : RtK w w5 v4 p ao n cap po k pcap eo m ecap uo ucap vo vcap g c l gv cv XV := ⟨KK.box, KK.old, KK.own, Ov.from (by omega), by omega, KK.up⟩
      clear q2 q3 q4 q5 ka kb hdr hA1 hA2 Ov iD bA bB hgv hg1 hsz2 hsz3 hge K1 KK
      go_wp2_with fail
      go_loopw [16, 20] (fun z16 z20 wr => ∃ (t g c : Nat) (l : List Int), t ≤ NV ∧ l = (an : Int) :: N.rest (S.take (j + (NV - t))) ∧ z16 = .slice (some ⟨g, 0, none⟩) l.length c ∧ z20 = .int .i64 (t : Int) ∧ RtK w w5 wr p ao n cap po k pcap eo m ecap uo ucap vo vcap g c l gv cv XV) (fun _ z20 _ => (intOf z20).toNat)
      case atStart => exact ⟨NV, g, c, l, Nat.le_refl _, by rw [HLL.out]; simp, rfl, rfl, K0⟩
      case round =>
        clear K0 HLL
        obtain ⟨t, g, c, l, ht, hl, rfl, rfl, K⟩ := hrel
        rcases Nat.eq_zero_or_pos t with rfl | htp
        · have hSa : S.take (j + (NV - 0)) = S := List.take_of_length_le (by have := PLH.out.all; omega)
          rw [hSa] at hl
          go_wp2
          refine bodyPost_ret (v := .tuple #[.slice (some ⟨g, 0, none⟩) l.length c, .int .i64 sm]) (by simp [results, Tryz.results24, go_sem]) rfl ?_
          rw [HY.out, AQ.out, ← hl]
          exact ⟨some ⟨g, 0, none⟩, c, rfl, fun _ => ⟨g, rfl, by have := (K.own.at (x := g) rfl).1; have := K.up; omega, K.own.from (by have := K.up; omega)⟩, K.box.bel⟩
        · obtain ⟨i, rfl⟩ : ∃ i, t = i + 1 := ⟨t - 1, by omega⟩
          obtain ⟨lo, hi, hx0, hx1, hhs, hlt, hhk, hSj⟩ := PLH.out.dn i (by omega)
          have hrt := rest_take N S hSj
          have HBD : Hid ((N.rest (S.take (j + (NV - (i + 1)))) ++ N.wy lo hi false).length ≤ 400000000) := by
            have := PLH.out.len (j + (NV - (i + 1)) + 1)
            rw [hrt] at this
            exact this
          have hll : l.length ≤ 1000000000 := by
            have := PLH.out.len (j + (NV - (i + 1)))
            rw [hl]
            simp
            omega
          have K1 := K.next (Below.refl wr.heap.size wr).drew
          have hc1 : (0 : Int) < (i : Int) + 1 := by omega
          have hc0 : (0 : Int) ≤ (i : Int) := by omega
          have hc2 : (i : Int) < (NV : Int) + 1 := by omega
          have hc3 : (0 : Int) ≤ (i : Int) + 1 := by omega
          have hc5 : (i : Int) + 1 < (NV : Int) + 1 := by omega
          have hc4 : ((i : Int) + 1).toNat = i + 1 := by omega
          have hwj : IntKind.i64.wrap (i : Int) = (i : Int) := by rw [IntKind.wrap_i64]; omega
          have hwj1 : IntKind.i64.wrap ((i : Int) + 1 - 1) = (i : Int) := by rw [IntKind.wrap_i64]; omega
          have HLL : Hid (l = (an : Int) :: N.rest (S.take (j + (NV - (i + 1))))) := hl
          have eT : (((i + 1 : Nat)) : Int) = (i : Int) + 1 := by simp
          rw [eT]
          clear hl
          obtain ⟨s0, s1, s2, s3, s4, s5, s6, s7⟩ := K1.all hx0 hx1
          go_wp2_with fail
          go_region_held3 (fun w' => w'.cell? ⟨w.heap.size, 0, none⟩ = some (.int .i64 p) ∧ w'.cell? ⟨w.heap.size, 1, none⟩ = some (.slice ao n cap) ∧ w'.cell? ⟨w.heap.size + 1, 0, none⟩ = some (.slice po k pcap) ∧ w'.cell? ⟨w.heap.size + 1, 1, none⟩ = some (.slice eo m ecap) ∧ w'.cell? ⟨w.heap.size + 1 + 1, 0, none⟩ = some (.slice uo m ucap) ∧ w'.cell? ⟨w.heap.size + 1 + 1, 1, none⟩ = some (.slice vo m vcap) ∧ w'.cell? ⟨gv, i, none⟩ = some (.int .i64 (lo : Int)) ∧ w'.cell? ⟨gv, i + 1, none⟩ = some (.int .i64 (hi : Int)))
            (first | (exact K3.all hx0 hx1) | (exact K2.all hx0 hx1) | (exact K1.all hx0 hx1) | go_keep)
            (first
        | (go_at_call 77; with_reducible refine (HUP.out _ lo hi false K1.old hhs hlt hhk).mono ?_; rintro e v3 ⟨gy, cy, rfl, Oy, b3⟩; have K2 := K1.next b3; have z2 := N.wy_len lo hi false; generalize hy : N.wy lo hi false = y at Oy z2 ⊢; have hcp : y.length + 1 ≤ cy := (by have := Oy.cap; simpa using this); obtain ⟨gy', ey, hgy, _, hcy⟩ := Oy.cells (by simp); cases ey; have u1 : (1 : Int) ≤ (y.length : Int) + 1 := (by omega); have u2 : ¬ cy = 1 := (by omega); have hyl : y.length ≤ 1000000000 := (by have := HBD.out; rw [hy] at this; simp at this; omega))
        | (refine step_appL ?_ (.tmp 127) (.tmp 141) ?_ 142 ?_ w5.heap.size c g l y ?_ K2.own gy 1 (cy - 1) ?_ (fun j' u' hu => by have := hcy (j' + 1) u' (by simpa using hu); rw [Nat.add_comm]; exact this) (by omega) hll hyl K2.old.size ?_; rfl; rfl; rfl; rfl; rfl; intro g4 c4 w4 O4 hg4 hat4; have K3 := K2.grow hg4 O4 hat4))
          go_wp2
          refine ⟨⟨i, g4, c4, l ++ y, by omega, ?_, ?_, ?_, K3⟩, ?_⟩
          · have e9 : j + (NV - i) = j + (NV - (i + 1)) + 1 := by omega
            rw [e9, hrt, HLL.out, hy]; simp
          · simp
          · simp
          · simp [intOf]
    · obtain ⟨lo, hi, hx0, hx1, hhs, hlt, hhk, hSj⟩ := PLH.out.up j hjn
      have hrt := rest_take N S hSj
      have HBD : Hid ((N.rest (S.take j) ++ N.wy lo hi true).length ≤ 400000000) := by
        have := PLH.out.len (j + 1)
        rw [hrt] at this
        exact this
      have hll : l.length ≤ 1000000000 := by
        have := PLH.out.len j
        rw [hl]
        simp
        omega
      have K1 := K.next (Below.refl wr.heap.size wr).drew
      have hc1 : (j : Int) + 1 < (NU : Int) + 1 := by omega
      have hc0 : (0 : Int) ≤ (j : Int) := by omega
      have hc2 : (j : Int) < (NU : Int) + 1 := by omega
      have hc3 : (0 : Int) ≤ (j : Int) + 1 := by omega
      have hc4 : ((j : Int) + 1).toNat = j + 1 := by omega
      have hwj : IntKind.i64.wrap (j : Int) = (j : Int) := by rw [IntKind.wrap_i64]; omega
      have hwj1 : IntKind.i64.wrap ((j : Int) + 1 - 1) = (j : Int) := by rw [IntKind.wrap_i64]; omega
      have hwj2 : IntKind.i64.wrap ((j : Int) + 1 + 1) = (j : Int) + 1 + 1 := by rw [IntKind.wrap_i64]; omega
      have HLL : Hid (l = (an : Int) :: N.rest (S.take j)) := hl
      clear hl
      obtain ⟨s0, s1, s2, s3, s4, s5, s6, s7⟩ := K1.all hx0 hx1
      go_wp2_with fail
      go_region_held3 (fun w' => w'.cell? ⟨w.heap.size, 0, none⟩ = some (.int .i64 p) ∧ w'.cell? ⟨w.heap.size, 1, none⟩ = some (.slice ao n cap) ∧ w'.cell? ⟨w.heap.size + 1, 0, none⟩ = some (.slice po k pcap) ∧ w'.cell? ⟨w.heap.size + 1, 1, none⟩ = some (.slice eo m ecap) ∧ w'.cell? ⟨w.heap.size + 1 + 1, 0, none⟩ = some (.slice uo m ucap) ∧ w'.cell? ⟨w.heap.size + 1 + 1, 1, none⟩ = some (.slice vo m vcap) ∧ w'.cell? ⟨gu, j, none⟩ = some (.int .i64 (lo : Int)) ∧ w'.cell? ⟨gu, j + 1, none⟩ = some (.int .i64 (hi : Int)))
        (first | (exact K3.all hx0 hx1) | (exact K2.all hx0 hx1) | (exact K1.all hx0 hx1) | go_keep)
        (first
        | (go_at_call 77; with_reducible refine (HUP.out _ lo hi true K1.old hhs hlt hhk).mono ?_; rintro e v3 ⟨gy, cy, rfl, Oy, b3⟩; have K2 := K1.next b3; have z2 := N.wy_len lo hi true; generalize hy : N.wy lo hi true = y at Oy z2 ⊢; have hcp : y.length + 1 ≤ cy := (by have := Oy.cap; simpa using this); obtain ⟨gy', ey, hgy, _, hcy⟩ := Oy.cells (by simp); cases ey; have u1 : (1 : Int) ≤ (y.length : Int) + 1 := (by omega); have u2 : ¬ cy = 1 := (by omega); have hyl : y.length ≤ 1000000000 := (by have := HBD.out; rw [hy] at this; simp at this; omega))
        | (refine step_appL ?_ (.tmp 88) (.tmp 102) ?_ 103 ?_ w5.heap.size c g l y ?_ K2.own gy 1 (cy - 1) ?_ (fun j' u' hu => by have := hcy (j' + 1) u' (by simpa using hu); rw [Nat.add_comm]; exact this) (by omega) hll hyl K2.old.size ?_; rfl; rfl; rfl; rfl; rfl; intro g4 c4 w4 O4 hg4 hat4; have K3 := K2.grow hg4 O4 hat4))
      go_wp2
      refine ⟨⟨j + 1, g4, c4, l ++ y, by omega, ?_, ?_, ?_, K3⟩, ?_⟩
      · rw [hrt, HLL.out, hy]; simp
      · simp
      · simp
      · simp [intOf]; omega

end Go.Proofs.YtokaechbmnbbiabGreat
