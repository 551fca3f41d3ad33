/-
  The document's Unpack.
-/
import Derived.Test.YteibbknpcgcjjabUnNP
import Derived.Test.YteibbknpcgcjjabUnTP
import Derived.Test.YteibbknpcgcjjabRecLP
set_option linter.unusedVariables false
set_option linter.unusedSimpArgs false
namespace Go.Proofs.Yteibbknpcgcjjab
open Go.RowKit Go.Maps Go.Deep Go.Joins
attribute [local go_sem ↓] Go.wp_at_zero Go.wp_at_succ

set_option maxRecDepth 100000 in
set_option maxHeartbeats 4000000 in
theorem specUnpack_any (p : Int) (ao : Option Addr) (n cap : Nat) (F T G : Nat → Int) (po : Option Addr) (k pcap : Nat) (P : Nat → Int) (eo : Option Addr) (m ecap : Nat) (L H : Nat → Int) (uo : Option Addr) (u ucap : Nat) (U : Nat → Int) (vo : Option Addr) (v vcap : Nat) (V : Nat → Int) (a c : Int) (up : Bool) (hn : n ≤ 1048576) (hk : k ≤ 1048576) (hm : m ≤ 1048576) (hu : u ≤ 1048576) (hv : v ≤ 1048576) (w : World) (hr : Row w ao n F T G) (hp : IRow w po k P) (he : ERow w eo m L H) (hU : IRow w uo u U) (hV : IRow w vo v V) :
    Calls Try.prog 28 #[.agg #[.int .i64 p, .slice ao n cap], .agg #[.slice po k pcap, .slice eo m ecap], .agg #[.slice uo u ucap, .slice vo v vcap], .int .i64 a, .int .i64 c, .bool up] w fun e w' => LAns w w' e (unL p n F T G k P m L H u U v V a c up) := by
  have B0 := u6_new w (p := p) (ao := ao) (n := n) (cap := cap) (po := po) (k := k) (pcap := pcap) (eo := eo) (m := m) (ecap := ecap) (uo := uo) (u := u) (ucap := ucap) (vo := vo) (v := v) (vcap := vcap)
  have HI := fun W h1 h2 h3 h4 h5 => l5Is_any p ao n cap F T G po k pcap P eo m ecap L H uo u ucap U vo v vcap V hn hk hm hu hv W h1 h2 h3 h4 h5
  by_cases hC : IsC p n F T G k P m L H u U v V
  rotate_left
  · have hl : unL p n F T G k P m L H u U v V a c up = [] := by unfold unL; rw [if_neg (fun h => hC h.1)]
    rw [hl]
    have y3 := B0.h1
    go_enter Try.func28, Try.ntmps28
    go_wp2_with fail
    generalize (((w.alloc (.cells #[.int .i64 p, .slice ao n cap] 32)).alloc (.cells #[.slice po k pcap, .slice eo m ecap] 40)).alloc (.cells #[.slice uo u ucap, .slice vo v vcap] 42)) = W at B0 y3 ⊢
    refine (l4Find_any eo m ecap L H a c hm _ (he.below B0.bel (Nat.le_refl _))).mono ?_
    rintro e w1 ⟨r, rfl, hr1, hb1⟩
    have B1 := B0.next hb1
    clear B0 y3 hr1
    have y0 := B1.g0
    have y1 := B1.g1
    have y2 := B1.h0
    have y3 := B1.h1
    have y4 := B1.m0
    have y5 := B1.m1
    go_wp2_with fail
    refine (HI _ (hr.below B1.bel (Nat.le_refl _)) (hp.below B1.bel (Nat.le_refl _)) (he.below B1.bel (Nat.le_refl _)) (hU.below B1.bel (Nat.le_refl _)) (hV.below B1.bel (Nat.le_refl _))).mono ?_
    rintro e w2 ⟨⟨b, rfl, hb⟩, hb2⟩
    obtain rfl : b = false := by
      cases b
      · rfl
      · exact absurd (hb.1 rfl) hC
    have B2 := B1.next hb2
    clear y0 y1 y2 y3 y4 y5 B1
    go_wp2
    go_ret
    exact lans_none (B2.bel.alloc B2.bel.size _)
  obtain ⟨hH, hsU, hsV⟩ := hC
  obtain ⟨hlen, heq⟩ := hok_len hH
  have hun : unL p n F T G k P m L H u U v V a c up = unL p n F T G k P m L H u U v V a c up := rfl
  have hC : IsC p n F T G k P m L H u U v V := ⟨hH, hsU, hsV⟩
  have he2 : ERow w eo m (Lf (lstF p n F T P)) (Hf (lstF p n F T P)) := he.congr (fun i hi => (heq i hi).1) (fun i hi => (heq i hi).2)
  obtain ⟨rfl, hsU2⟩ := hsU
  obtain ⟨rfl, hsV2⟩ := hsV
  have hU2 : IRow w uo m (cusT p n F T G P).1 := fun j hj => by
    obtain ⟨b, o, e, h⟩ := hU j hj
    exact ⟨b, o, e, by rw [hsU2 j hj]; exact h⟩
  have hV2 : IRow w vo m (cusT p n F T G P).2 := fun j hj => by
    obtain ⟨b, o, e, h⟩ := hV j hj
    exact ⟨b, o, e, by rw [hsV2 j hj]; exact h⟩
  have D := gd_can hH.1
  rw [← hlen] at D
  have hul : unL p n F T G k P m L H m U m V a c up = if hsB m (Lf (lstF p n F T P)) (Hf (lstF p n F T P)) a c = true ∧ (cn p n F T G P).wt a.toNat c.toNat up ≠ 1000000000000 then P (frR a.toNat c.toNat up) :: (cn p n F T G P).wy a.toNat c.toNat up else [] := by
    unfold unL UnY
    rw [← hlen]
    by_cases h : hsB m (Lf (lstF p n F T P)) (Hf (lstF p n F T P)) a c = true ∧ (cn p n F T G P).wt a.toNat c.toNat up ≠ 1000000000000
    · rw [if_pos h, if_pos ⟨hC, h⟩]
    · rw [if_neg h, if_neg (fun x => h x.2)]
  have HUL : True := trivial
  rw [hul]
  have hcn : cn p n F T G P = netOf n F T G P m (Lf (lstF p n F T P)) (Hf (lstF p n F T P)) (cusT p n F T G P).1 (cusT p n F T G P).2 := by unfold cn; rw [← hlen]
  rw [hcn]
  have HCC : Hid (IsC p n F T G k P m L H m U m V) := hC
  clear hcn hul hun hC hsU2 hsV2 heq hH hlen
  generalize (cusT p n F T G P).1 = Uc at hU2 D ⊢
  generalize (cusT p n F T G P).2 = Vc at hV2 D ⊢
  generalize Lf (lstF p n F T P) = Lc at he2 D ⊢
  generalize Hf (lstF p n F T P) = Hc at he2 D ⊢
  have hNR : NRows w ao n F T G po k P eo m Lc Hc uo Uc vo Vc := ⟨hr, hp, he2, hU2, hV2⟩
  obtain ⟨q, hq⟩ := D.q
  have hwtE : ∀ j, fnd Lc Hc a c m = j → 0 ≤ a → 0 ≤ c → (netOf n F T G P m Lc Hc Uc Vc).wt a.toNat c.toNat up = if up = true then Uc j else Vc j := fun j hj h0 h1 => by
    simp only [Net.wt, netOf]
    rw [show ((a.toNat : Nat) : Int) = a by omega, show ((c.toNat : Nat) : Int) = c by omega, hj]
  cases hs : hsB m Lc Hc a c with
  | false =>
    simp only [Bool.false_eq_true, false_and, if_false]
    have y3 := B0.h1
    go_enter Try.func28, Try.ntmps28
    go_wp2_with fail
    generalize (((w.alloc (.cells #[.int .i64 p, .slice ao n cap] 32)).alloc (.cells #[.slice po k pcap, .slice eo m ecap] 40)).alloc (.cells #[.slice uo m ucap, .slice vo m vcap] 42)) = W at B0 y3 ⊢
    refine (l4Find_net hq eo ecap a c hm _ (he2.below B0.bel (Nat.le_refl _))).mono ?_
    rintro e w1 ⟨r, rfl, hry, hrn, hb1⟩
    have hneg := hrn hs
    have B1 := B0.next hb1
    clear B0 y3 hry hrn
    have y0 := B1.g0
    have y1 := B1.g1
    have y2 := B1.h0
    have y3 := B1.h1
    have y4 := B1.m0
    have y5 := B1.m1
    go_wp2_with fail
    refine (HI _ (hr.below B1.bel (Nat.le_refl _)) (hp.below B1.bel (Nat.le_refl _)) (he.below B1.bel (Nat.le_refl _)) (hU.below B1.bel (Nat.le_refl _)) (hV.below B1.bel (Nat.le_refl _))).mono ?_
    rintro e w2 ⟨⟨b, rfl, hb⟩, hb2⟩
    obtain rfl : b = true := hb.2 HCC.out
    have B2 := B1.next hb2
    clear y0 y1 y2 y3 y4 y5 B1 HI hb
    go_wp2
    go_ret
    exact lans_none (B2.bel.alloc B2.bel.size _)
  | true =>
    have hat := fnd_at m (hsB_iff.1 hs)
    have hj0 := hat.1
    have hed := D.ed _ hj0
    rw [hat.2.1, hat.2.2] at hed
    obtain ⟨j, hj⟩ : ∃ j, fnd Lc Hc a c m = j := ⟨_, rfl⟩
    have hwt := hwtE j hj hed.1 (by omega)
    rw [hj] at hj0
    have l1 : (0 : Int) ≤ (j : Int) := by omega
    have l2 : (j : Int) < (m : Int) := by omega
    have l3 : ¬ (j : Int) < 0 := by omega
    clear hwtE
    by_cases hfar : (if up = true then Uc j else Vc j) = 1000000000000
    · have hwf : ¬ (True ∧ (netOf n F T G P m Lc Hc Uc Vc).wt a.toNat c.toNat up ≠ 1000000000000) := fun h => h.2 (hwt.trans hfar)
      simp only [hwf, if_false]
      have y3 := B0.h1
      go_enter Try.func28, Try.ntmps28
      go_wp2_with fail
      generalize (((w.alloc (.cells #[.int .i64 p, .slice ao n cap] 32)).alloc (.cells #[.slice po k pcap, .slice eo m ecap] 40)).alloc (.cells #[.slice uo m ucap, .slice vo m vcap] 42)) = W at B0 y3 ⊢
      refine (l4Find_net hq eo ecap a c hm _ (he2.below B0.bel (Nat.le_refl _))).mono ?_
      rintro e w1 ⟨r, rfl, hry, hrn, hb1⟩
      obtain ⟨rfl, _⟩ := hry hs
      rw [hj]
      have B1 := B0.next hb1
      clear B0 y3 hry hrn
      have y0 := B1.g0
      have y1 := B1.g1
      have y2 := B1.h0
      have y3 := B1.h1
      have y4 := B1.m0
      have y5 := B1.m1
      go_wp2_with fail
      refine (HI _ (hr.below B1.bel (Nat.le_refl _)) (hp.below B1.bel (Nat.le_refl _)) (he.below B1.bel (Nat.le_refl _)) (hU.below B1.bel (Nat.le_refl _)) (hV.below B1.bel (Nat.le_refl _))).mono ?_
      rintro e w2 ⟨⟨b, rfl, hb⟩, hb2⟩
      obtain rfl : b = true := hb.2 HCC.out
      have B2 := B1.next hb2
      clear y0 y1 y2 y3 y4 y5 B1 HI hb
      clear hwf hwt
      cases up
      · simp only [if_true, if_false, Bool.false_eq_true] at hfar
        obtain ⟨b5, o5, rfl, _⟩ := (hNR.below B2.bel (Nat.le_refl _)).dn j hj0
        obtain ⟨b6, o6, e6, d5⟩ := (hNR.below B2.bel (Nat.le_refl _)).dn j hj0
        cases e6
        have y4 := B2.m0
        have y5 := B2.m1
        go_wp2
        go_ret
        exact lans_none (B2.bel.alloc B2.bel.size _)
      · simp only [if_true, if_false, Bool.false_eq_true] at hfar
        obtain ⟨b5, o5, rfl, _⟩ := (hNR.below B2.bel (Nat.le_refl _)).up j hj0
        obtain ⟨b6, o6, e6, d5⟩ := (hNR.below B2.bel (Nat.le_refl _)).up j hj0
        cases e6
        have y4 := B2.m0
        have y5 := B2.m1
        go_wp2
        go_ret
        exact lans_none (B2.bel.alloc B2.bel.size _)
    · have hwf : (True ∧ (netOf n F T G P m Lc Hc Uc Vc).wt a.toNat c.toNat up ≠ 1000000000000) := ⟨trivial, fun h => hfar (hwt.symm.trans h)⟩
      simp only [hwf, if_true, ne_eq, not_false_eq_true, and_self]
      have y3 := B0.h1
      go_enter Try.func28, Try.ntmps28
      go_wp2_with fail
      generalize (((w.alloc (.cells #[.int .i64 p, .slice ao n cap] 32)).alloc (.cells #[.slice po k pcap, .slice eo m ecap] 40)).alloc (.cells #[.slice uo m ucap, .slice vo m vcap] 42)) = W at B0 y3 ⊢
      refine (l4Find_net hq eo ecap a c hm _ (he2.below B0.bel (Nat.le_refl _))).mono ?_
      rintro e w1 ⟨r, rfl, hry, hrn, hb1⟩
      obtain ⟨rfl, _⟩ := hry hs
      rw [hj]
      have B1 := B0.next hb1
      clear B0 y3 hry hrn
      have y0 := B1.g0
      have y1 := B1.g1
      have y2 := B1.h0
      have y3 := B1.h1
      have y4 := B1.m0
      have y5 := B1.m1
      go_wp2_with fail
      refine (HI _ (hr.below B1.bel (Nat.le_refl _)) (hp.below B1.bel (Nat.le_refl _)) (he.below B1.bel (Nat.le_refl _)) (hU.below B1.bel (Nat.le_refl _)) (hV.below B1.bel (Nat.le_refl _))).mono ?_
      rintro e w2 ⟨⟨b, rfl, hb⟩, hb2⟩
      obtain rfl : b = true := hb.2 HCC.out
      have B2 := B1.next hb2
      clear y0 y1 y2 y3 y4 y5 B1 HI hb
      clear hwf hwt
      cases up
      · simp only [if_true, if_false, Bool.false_eq_true] at hfar
        obtain ⟨b5, o5, rfl, _⟩ := (hNR.below B2.bel (Nat.le_refl _)).dn j hj0
        obtain ⟨b6, o6, e6, d5⟩ := (hNR.below B2.bel (Nat.le_refl _)).dn j hj0
        cases e6
        have y4 := B2.m0
        have y5 := B2.m1
        have y0 := B2.g0
        have y1 := B2.g1
        have y2 := B2.h0
        have y3 := B2.h1
        have hjd : decide ((j : Int) < 0) = false := by simp
        go_wp2_with fail
        have hea : ((a.toNat : Nat) : Int) = a := by omega
        have hec : ((c.toNat : Nat) : Int) = c := by omega
        have HU := l7Unpack_any p ao n cap F T G po k pcap P eo m ecap Lc Hc uo ucap Uc (some ⟨b5, o5, none⟩) vcap Vc hn hk hm q hq D.arcs D.up D.dn a.toNat c.toNat false w2 (hNR.below B2.bel (Nat.le_refl _)) (by rw [hea, hec]; exact hs) (by omega) (by omega) (by have := D.hk; omega)
        rw [hea, hec] at HU
        refine HU.mono ?_
        rintro e w3 ⟨g, gc, rfl, hO, hb3⟩
        have B3 := B2.next hb3
        go_wp2
        go_ret
        exact ⟨some ⟨g, 0, none⟩, gc, rfl, fun _ => ⟨g, rfl, Nat.le_trans B2.bel.size (hO.at rfl).1, hO.from B2.bel.size⟩, B3.bel⟩
      · simp only [if_true, if_false, Bool.false_eq_true] at hfar
        obtain ⟨b5, o5, rfl, _⟩ := (hNR.below B2.bel (Nat.le_refl _)).up j hj0
        obtain ⟨b6, o6, e6, d5⟩ := (hNR.below B2.bel (Nat.le_refl _)).up j hj0
        cases e6
        have y4 := B2.m0
        have y5 := B2.m1
        have y0 := B2.g0
        have y1 := B2.g1
        have y2 := B2.h0
        have y3 := B2.h1
        have hjd : decide ((j : Int) < 0) = false := by simp
        go_wp2_with fail
        have hea : ((a.toNat : Nat) : Int) = a := by omega
        have hec : ((c.toNat : Nat) : Int) = c := by omega
        have HU := l7Unpack_any p ao n cap F T G po k pcap P eo m ecap Lc Hc (some ⟨b5, o5, none⟩) ucap Uc vo vcap Vc hn hk hm q hq D.arcs D.up D.dn a.toNat c.toNat true w2 (hNR.below B2.bel (Nat.le_refl _)) (by rw [hea, hec]; exact hs) (by omega) (by omega) (by have := D.hk; omega)
        rw [hea, hec] at HU
        refine HU.mono ?_
        rintro e w3 ⟨g, gc, rfl, hO, hb3⟩
        have B3 := B2.next hb3
        go_wp2
        go_ret
        exact ⟨some ⟨g, 0, none⟩, gc, rfl, fun _ => ⟨g, rfl, Nat.le_trans B2.bel.size (hO.at rfl).1, hO.from B2.bel.size⟩, B3.bel⟩

end Go.Proofs.Yteibbknpcgcjjab
