/-
  The program's Route.
-/
import Derived.Test.YtokaechbmnbbiabGreatRtQP
import Derived.Test.YtokaechbmnbbiabGreatRtCP
import Derived.Test.YtokaechbmnbbiabGreatRtVP
import Derived.Test.YtokaechbmnbbiabGreatPack15
import Derived.Test.YtokaechbmnbbiabGreatMtgTP
import Derived.Test.YtokaechbmnbbiabGreatPack1
import Derived.Test.YtokaechbmnbbiabGreatCuQP
set_option linter.unusedVariables false
set_option linter.unusedSimpArgs false
namespace Go.Proofs.YtokaechbmnbbiabGreat
open Go.RowKit Go.Maps Go.Deep Go.Joins
attribute [local go_sem ↓] Go.wp_at_zero Go.wp_at_succ

def RtAns (w w' : World) (e : Ending) (r : List Int × Int) : Prop := ∃ ao cap, e = .returned (.tuple #[.slice ao r.1.length cap, .int .i64 r.2]) ∧ (0 < r.1.length → ∃ g, ao = some ⟨g, 0, none⟩ ∧ w.heap.size ≤ g ∧ LOwn w' w.heap.size (some ⟨g, 0, none⟩) cap r.1) ∧ Below w.heap.size w w'
theorem rtans_none {w w' : World} {ao : Option Addr} {cap : Nat} (hb : Below w.heap.size w w') : RtAns w w' (.returned (.tuple #[.slice ao 0 cap, .int .i64 1000000000000])) ([], 1000000000000) := ⟨ao, cap, rfl, fun h => by simp at h, hb⟩

set_option maxRecDepth 100000 in
set_option maxHeartbeats 8000000 in
theorem implRoute_any (p : Int) (ao : Option Addr) (n cap : Nat) (F T G : Nat → Int) (po : Option Addr) (k pcap : Nat) (P : Nat → Int) (eo : Option Addr) (m ecap : Nat) (L H : Nat → Int) (uo : Option Addr) (u ucap : Nat) (U : Nat → Int) (vo : Option Addr) (v vcap : Nat) (V : Nat → Int) (a b : Int) (hn : n ≤ 1048576) (hk : k ≤ 1048576) (hm : m ≤ 1048576) (hu : u ≤ 1048576) (hv : v ≤ 1048576) (w : World) (hr : Row w ao n F T G) (hp : IRow w po k P) (he : ERow w eo m L H) (hU : IRow w uo u U) (hV : IRow w vo v V) :
    Calls Tryz.prog 23 #[.agg #[.int .i64 p, .slice ao n cap], .agg #[.slice po k pcap, .slice eo m ecap], .agg #[.slice uo u ucap, .slice vo v vcap], .int .i64 a, .int .i64 b] w fun e w' => RtAns w w' e (rtA p n F T G k P m L H u U v V a b) := by
  have B0 := u6_new w (p := p) (ao := ao) (n := n) (cap := cap) (po := po) (k := k) (pcap := pcap) (eo := eo) (m := m) (ecap := ecap) (uo := uo) (u := u) (ucap := ucap) (vo := vo) (v := v) (vcap := vcap)
  have HI := fun W h1 h2 h3 h4 h5 => isCustomized_any p ao n cap F T G po k pcap P eo m ecap L H uo u ucap U vo v vcap V hn hk hm hu hv W h1 h2 h3 h4 h5
  go_enter Tryz.func23, Tryz.ntmps23
  go_wp2_with fail
  generalize (((w.alloc (.cells #[.int .i64 p, .slice ao n cap] 26)).alloc (.cells #[.slice po k pcap, .slice eo m ecap] 30)).alloc (.cells #[.slice uo u ucap, .slice vo v vcap] 34)) = W0 at B0 ⊢
  refine (HI _ (hr.below B0.bel (Nat.le_refl _)) (hp.below B0.bel (Nat.le_refl _)) (he.below B0.bel (Nat.le_refl _)) (hU.below B0.bel (Nat.le_refl _)) (hV.below B0.bel (Nat.le_refl _))).mono ?_
  clear HI
  rintro e w1 ⟨⟨bc, rfl, hbc⟩, hb1⟩
  have B1 := B0.next hb1
  have q0 := B1.g0
  cases bc
  · have hno : rtA p n F T G k P m L H u U v V a b = ([], 1000000000000) := by
      unfold rtA
      rw [if_neg (fun h => by have := hbc.2 h.1; simp at this)]
    go_wp2
    refine bodyPost_ret (v := .tuple #[.slice (some ⟨_, 0, none⟩) 0 0, .int .i64 1000000000000]) (by simp [results, Tryz.results23, go_sem]; rfl) rfl ?_
    rw [hno]
    exact rtans_none (B1.bel.alloc B1.bel.size _)
  have hC := hbc.1 rfl
  clear hbc hb1 B0
  have HKP : Hid ((k : Int) = p) := (ordB_parts hC.1.1).1
  go_wp2_with fail
  refine (placeOk_any a p _).mono ?_
  rintro e w2 ⟨rfl, hq⟩
  subst hq
  rcases Bool.eq_false_or_eq_true (inB a 0 (p - 1)) with hia | hia
  rotate_left
  · have hno : rtA p n F T G k P m L H u U v V a b = ([], 1000000000000) := by
      unfold rtA
      rw [if_neg (fun h => by have := h.2.1; unfold RIn at this; have := HKP.out; simp [inB] at hia; omega)]
    rw [hia]
    go_wp2
    refine bodyPost_ret (v := .tuple #[.slice (some ⟨_, 0, none⟩) 0 0, .int .i64 1000000000000]) (by simp [results, Tryz.results23, go_sem]; rfl) rfl ?_
    rw [hno]
    exact rtans_none (B1.bel.alloc B1.bel.size _)
  rw [hia]
  go_wp2_with fail
  refine (placeOk_any b p _).mono ?_
  rintro e w3 ⟨rfl, hq⟩
  subst hq
  rcases Bool.eq_false_or_eq_true (inB b 0 (p - 1)) with hib | hib
  rotate_left
  · have hno : rtA p n F T G k P m L H u U v V a b = ([], 1000000000000) := by
      unfold rtA
      rw [if_neg (fun h => by have := h.2.2; unfold RIn at this; have := HKP.out; simp [inB] at hib; omega)]
    rw [hib]
    go_wp2
    refine bodyPost_ret (v := .tuple #[.slice (some ⟨_, 0, none⟩) 0 0, .int .i64 1000000000000]) (by simp [results, Tryz.results23, go_sem]; rfl) rfl ?_
    rw [hno]
    exact rtans_none (B1.bel.alloc B1.bel.size _)
  rw [hib]
  have hRa : RIn k a := by unfold RIn; have := HKP.out; simp [inB] at hia; omega
  have hRb : RIn k b := by unfold RIn; have := HKP.out; simp [inB] at hib; omega
  have q2 := B1.h0
  clear hia hib
  go_wp2_with fail
  have hokr : okR k P = true := by
    obtain ⟨_, _, hk24, he9⟩ := ordB_parts hC.1.1
    simp [okR, he9]
    omega
  have hSR := implRanks_any po k pcap P hk w3 (hp.below B1.bel (Nat.le_refl _))
  have hlr : lenR k P = k := by unfold lenR; rw [if_pos hokr]
  rw [hlr] at hSR
  refine hSR.mono ?_
  clear hSR hlr q0 q2
  rintro e w4 ⟨ao7, cap7, rfl, hX7, b7⟩
  have hrR : IRow w4 ao7 k (rk P (-1) k) := fun q hq => by
    obtain ⟨g9, e1, _, i1⟩ := hX7 (by omega)
    rw [e1]; exact i1.row q hq
  clear hX7
  have B4 := B1.next b7
  obtain ⟨an, rfl⟩ : ∃ an : Nat, a = (an : Int) := ⟨a.toNat, by have := hRa.1; omega⟩
  obtain ⟨bn, rfl⟩ : ∃ bn : Nat, b = (bn : Int) := ⟨b.toNat, by have := hRb.1; omega⟩
  have han : an < k := by have := hRa.2; omega
  have hbn : bn < k := by have := hRb.2; omega
  have hka := rk_in hokr han
  have hkb := rk_in hokr hbn
  obtain ⟨ra, hra⟩ : ∃ ra : Nat, rk P (-1) k an = (ra : Int) := ⟨(rk P (-1) k an).toNat, by omega⟩
  obtain ⟨rb, hrb⟩ : ∃ rb : Nat, rk P (-1) k bn = (rb : Int) := ⟨(rk P (-1) k bn).toNat, by omega⟩
  obtain ⟨bq, oq, e9, ka⟩ := hrR an han
  subst e9
  obtain ⟨bq', oq', e9, kb⟩ := hrR bn hbn
  cases e9
  rw [hra] at ka hka
  rw [hrb] at kb hkb
  have hka' : (an : Int) < (k : Int) := by omega
  have hkb' : (bn : Int) < (k : Int) := by omega
  have q0 := B4.g0
  have q1 := B4.g1
  have q2 := B4.h0
  have q3 := B4.h1
  have q4 := B4.m0
  have q5 := B4.m1
  go_wp2_with fail
  have hyes : rtA p n F T G k P m L H u U v V (an : Int) (bn : Int) = rtC p n F T G k P (an : Int) (bn : Int) := by
    unfold rtA
    rw [if_pos ⟨hC, hRa, hRb⟩]
  obtain ⟨hH, ⟨eu, hsU2⟩, ⟨ev, hsV2⟩⟩ := hC
  obtain ⟨hlen, heq⟩ := hok_len hH
  have he2 : ERow w eo m (Lf (lstF p n F T P)) (Hf (lstF p n F T P)) := he.congr (fun i hi => (heq i hi).1) (fun i hi => (heq i hi).2)
  subst eu
  subst ev
  have hU2 : IRow w uo m (cusT p n F T G P).1 := fun j hj => by
    obtain ⟨b, o, e, h⟩ := hU j hj
    exact ⟨b, o, e, by rw [hsU2 j hj]; exact h⟩
  have hV2 : IRow w vo m (cusT p n F T G P).2 := fun j hj => by
    obtain ⟨b, o, e, h⟩ := hV j hj
    exact ⟨b, o, e, by rw [hsV2 j hj]; exact h⟩
  have D := gd_can hH.1
  have CE := cenv_of hH.1
  have hed : edB (k : Int) (Lf (lstF p n F T P)) (Hf (lstF p n F T P)) (lstF p n F T P).length = true := CE.ed
  have htold : TOld k (lstF p n F T P).length (Lf (lstF p n F T P)) (Hf (lstF p n F T P)) (lstF p n F T P).length (cusT p n F T G P).1 (lstF p n F T P).length (cusT p n F T G P).2 := by
    have := mok_can hH.1
    exact ⟨this.1.1, rfl, rfl, this.2.2.2.1, this.2.2.2.2.1⟩
  have hAns : rtC p n F T G k P (an : Int) (bn : Int) = if (mt (cl (Lf (lstF p n F T P)) (Hf (lstF p n F T P)) (cusT p n F T G P).1 ra m) (cl (Lf (lstF p n F T P)) (Hf (lstF p n F T P)) (cusT p n F T G P).2 rb m) k).2 = 1000000000000 then ([], 1000000000000) else (rtW (netOf n F T G P m (Lf (lstF p n F T P)) (Hf (lstF p n F T P)) (cusT p n F T G P).1 (cusT p n F T G P).2) (Lf (lstF p n F T P)) (Hf (lstF p n F T P)) (an : Int) (rtSt (Lf (lstF p n F T P)) (Hf (lstF p n F T P)) (cusT p n F T G P).1 (cusT p n F T G P).2 m ra rb (mt (cl (Lf (lstF p n F T P)) (Hf (lstF p n F T P)) (cusT p n F T G P).1 ra m) (cl (Lf (lstF p n F T P)) (Hf (lstF p n F T P)) (cusT p n F T G P).2 rb m) k).1.toNat), (mt (cl (Lf (lstF p n F T P)) (Hf (lstF p n F T P)) (cusT p n F T G P).1 ra m) (cl (Lf (lstF p n F T P)) (Hf (lstF p n F T P)) (cusT p n F T G P).2 rb m) k).2) := by
    unfold rtC cn
    simp only [Int.toNat_natCast, hra, hrb, ← hlen]
  rw [← hlen] at D htold hed
  have HY : Hid (rtA p n F T G k P m L H m U m V (an : Int) (bn : Int) = rtC p n F T G k P (an : Int) (bn : Int)) := hyes
  clear hyes hsU2 hsV2 heq CE hlen hU hV he hRa hRb
  generalize (cusT p n F T G P).1 = Uc at hU2 D htold hAns
  generalize (cusT p n F T G P).2 = Vc at hV2 D htold hAns
  generalize Lf (lstF p n F T P) = Lc at he2 D htold hed hAns
  generalize Hf (lstF p n F T P) = Hc at he2 D htold hed hAns
  have hIU : InF m Uc := htold.2.2.2.1
  have hIV : InF m Vc := htold.2.2.2.2
  have HE : Hid (∀ i, i < m → 0 ≤ Lc i ∧ Lc i < Hc i ∧ Hc i < (k : Int)) := D.ed
  have CU : Clb k m Lc Hc Uc ra (cl Lc Hc Uc ra m) := clb_cl hed HE.out hIU
  have CV : Clb k m Lc Hc Vc rb (cl Lc Hc Vc rb m) := clb_cl hed HE.out hIV
  have hran : ra < k := by omega
  have hrbn : rb < k := by omega
  have hk24 : k ≤ 24 := by have := (ordB_parts hH.1).2.2.1; omega
  have hMt := fun W h1 h2 h3 => meet_any po k pcap eo m ecap Lc Hc uo m ucap Uc vo m vcap Vc (ra : Int) (rb : Int) (by omega) hm (by omega) (by omega) W h1 h2 h3
  rw [mtg_yes htold ⟨by omega, by omega⟩ ⟨by omega, by omega⟩] at hMt
  simp only [Int.toNat_natCast] at hMt
  obtain ⟨⟨tp, sm⟩, hts⟩ : ∃ M, mt (cl Lc Hc Uc ra m) (cl Lc Hc Vc rb m) k = M := ⟨_, rfl⟩
  have hmti := mt_is (A := cl Lc Hc Uc ra m) (B := cl Lc Hc Vc rb m) k
  rw [hts] at hMt hAns hmti
  simp only at hMt hAns
  clear hts hka hkb
  have HMT : Hid (∀ W, Below w4.heap.size w4 W → Calls Tryz.prog 68 #[.agg #[.slice po k pcap, .slice eo m ecap], .agg #[.slice uo m ucap, .slice vo m vcap], .int .i64 (ra : Int), .int .i64 (rb : Int)] W fun e w' => e = .returned (.tuple #[.int .i64 tp, .int .i64 sm]) ∧ Below W.heap.size W w') := fun W hA => hMt W (he2.below (below_next B4.bel (Nat.le_refl _) hA) (Nat.le_refl _)) (hU2.below (below_next B4.bel (Nat.le_refl _) hA) (Nat.le_refl _)) (hV2.below (below_next B4.bel (Nat.le_refl _) hA) (Nat.le_refl _))
  clear hMt
  have hdr := (Below.refl w4.heap.size w4).drew
  replace q2 := keep_cell hdr (Nat.le_refl _) q2
  replace q3 := keep_cell hdr (Nat.le_refl _) q3
  replace q4 := keep_cell hdr (Nat.le_refl _) q4
  replace q5 := keep_cell hdr (Nat.le_refl _) q5
  have ka2 := keep_cell hdr (Nat.le_refl _) ka
  have kb2 := keep_cell hdr (Nat.le_refl _) kb
  have q4' : w4.drew.cell? ⟨w.heap.size + 1 + 1, 0, none⟩ = some (.slice uo m ucap) := q4
  have q5' : w4.drew.cell? ⟨w.heap.size + 1 + 1, 1, none⟩ = some (.slice vo m vcap) := q5
  go_region_held3 (fun w' => w'.cell? ⟨w.heap.size + 1, 0, none⟩ = some (.slice po k pcap) ∧ w'.cell? ⟨w.heap.size + 1, 1, none⟩ = some (.slice eo m ecap) ∧ w'.cell? ⟨w.heap.size + 1 + 1, 0, none⟩ = some (.slice uo m ucap) ∧ w'.cell? ⟨w.heap.size + 1 + 1, 1, none⟩ = some (.slice vo m vcap) ∧ w'.cell? ⟨bq, oq + an, none⟩ = some (.int .i64 (ra : Int)) ∧ w'.cell? ⟨bq, oq + bn, none⟩ = some (.int .i64 (rb : Int)))
    (first | (refine ⟨?_, ?_, ?_, ?_, ?_, ?_⟩; exact keep_cell b5 (Nat.le_refl _) q2; exact keep_cell b5 (Nat.le_refl _) q3; exact keep_cell b5 (Nat.le_refl _) q4'; exact keep_cell b5 (Nat.le_refl _) q5'; exact keep_cell b5 (Nat.le_refl _) ka2; exact keep_cell b5 (Nat.le_refl _) kb2) | go_keep)
    (first | (go_at_call 68; with_reducible refine (HMT.out _ hdr).mono ?_; rintro e w5 ⟨rfl, b5⟩))
  have B5 := (B4.next hdr).next b5
  replace ka := keep_cell b5 (Nat.le_refl _) ka2
  replace kb := keep_cell b5 (Nat.le_refl _) kb2
  clear q0 q1 q2 q3 q4 q5 q4' q5' ka2 kb2 hdr HMT B4 B1 b7
  have hAq := hAns
  clear hAns
  rcases hmti with hno | ⟨tn, htn, hmt, hsl⟩
  · simp only [Prod.mk.injEq] at hno
    obtain ⟨rfl, rfl⟩ := hno
    rw [if_pos rfl] at hAq
    go_wp2
    refine bodyPost_ret (v := .tuple #[.slice (some ⟨_, 0, none⟩) 0 0, .int .i64 1000000000000]) (by simp [results, Tryz.results23, go_sem]; rfl) rfl ?_
    rw [HY.out, hAq]
    exact rtans_none (B5.bel.alloc B5.bel.size _)
  simp only [Prod.mk.injEq] at hmt
  obtain ⟨rfl, hsm⟩ := hmt
  rw [← hsm] at hsl
  clear hsm
  have hsm9 : ¬ (sm = 1000000000000) := by omega
  rw [if_neg hsm9, Int.toNat_natCast] at hAq
  have q0 := B5.g0
  have q1 := B5.g1
  have q2 := B5.h0
  have q3 := B5.h1
  have q4 : w5.cell? ⟨w.heap.size + 1 + 1, 0, none⟩ = some (.slice uo m ucap) := B5.m0
  have q5 : w5.cell? ⟨w.heap.size + 1 + 1, 1, none⟩ = some (.slice vo m vcap) := B5.m1
  have NR : NRows w5 ao n F T G po k P eo m Lc Hc uo Uc vo Vc := ⟨hr.below B5.bel (Nat.le_refl _), hp.below B5.bel (Nat.le_refl _), he2.below B5.bel (Nat.le_refl _), hU2.below B5.bel (Nat.le_refl _), hV2.below B5.bel (Nat.le_refl _)⟩
  go_wp2_with fail
  refine (newGuide_any p ao n cap F T G po k pcap P eo m ecap Lc Hc uo ucap Uc vo vcap Vc D.hn D.hm D.wfA D.wfE w5 NR).mono ?_
  rintro e w6 ⟨ma, me, rfl, GO, b6⟩
  clear q0 q1 q2 q3 q4 q5 NR
  have B6 := B5.next b6
  replace ka := keep_cell b6 (Nat.le_refl _) ka
  replace kb := keep_cell b6 (Nat.le_refl _) kb
  have HQ : Hid ((w6.alloc (.cells #[.int .i64 0, .slice none 0 0, .slice none 0 0, .slice none 0 0, .slice none 0 0, .slice none 0 0, .map none, .map none] 98)).heap[w6.heap.size]? = some (.cells #[.int .i64 0, .slice none 0 0, .slice none 0 0, .slice none 0 0, .slice none 0 0, .slice none 0 0, .map none, .map none] 98 (0, 0))) := heap_alloc_new w6 _
  have HX : Hid (Below w6.heap.size w6 ((w6.alloc (.cells #[.int .i64 0, .slice none 0 0, .slice none 0 0, .slice none 0 0, .slice none 0 0, .slice none 0 0, .map none, .map none] 98)).setRow w6.heap.size #[.int .i64 p, .slice ao n cap, .slice po k pcap, .slice eo m ecap, .slice uo m ucap, .slice vo m vcap, .map (some ma), .map (some me)]) ∧ ((w6.alloc (.cells #[.int .i64 0, .slice none 0 0, .slice none 0 0, .slice none 0 0, .slice none 0 0, .slice none 0 0, .map none, .map none] 98)).setRow w6.heap.size #[.int .i64 p, .slice ao n cap, .slice po k pcap, .slice eo m ecap, .slice uo m ucap, .slice vo m vcap, .map (some ma), .map (some me)]).heap[w6.heap.size]? = some (.cells #[.int .i64 p, .slice ao n cap, .slice po k pcap, .slice eo m ecap, .slice uo m ucap, .slice vo m vcap, .map (some ma), .map (some me)] 98 (0, 0))) := ⟨setRowB ((Below.refl _ _).alloc (Nat.le_refl _) _) (Nat.le_refl _) _, setRow_heap _ _ _ _ _ _ HQ.out⟩
  go_wp2_with (first | (refine wpList_store_row rfl 98 _ _ rfl w6.heap.size #[.int .i64 p, .slice ao n cap, .slice po k pcap, .slice eo m ecap, .slice uo m ucap, .slice vo m vcap, .map (some ma), .map (some me)] rfl rfl 98 #[.int .i64 0, .slice none 0 0, .slice none 0 0, .slice none 0 0, .slice none 0 0, .slice none 0 0, .map none, .map none] HQ.out Tryz.infoGuide rfl (by simp [Value.oneCell']) ?_; generalize hX : World.setRow _ _ _ = X; have HX' : Below w6.heap.size w6 X ∧ X.heap[w6.heap.size]? = some (.cells #[.int .i64 p, .slice ao n cap, .slice po k pcap, .slice eo m ecap, .slice uo m ucap, .slice vo m vcap, .map (some ma), .map (some me)] 98 (0, 0)) := (by rw [← hX]; exact HX.out); clear hX HX HQ; obtain ⟨hX1, hX2⟩ := HX'; have x0 : X.cell? ⟨w6.heap.size, 0, none⟩ = some (.int .i64 p) := (by simp [World.cell?, hX2]); have x1 : X.cell? ⟨w6.heap.size, 1, none⟩ = some (.slice ao n cap) := (by simp [World.cell?, hX2]); have x2 : X.cell? ⟨w6.heap.size, 2, none⟩ = some (.slice po k pcap) := (by simp [World.cell?, hX2]); have x3 : X.cell? ⟨w6.heap.size, 3, none⟩ = some (.slice eo m ecap) := (by simp [World.cell?, hX2]); have x4 : X.cell? ⟨w6.heap.size, 4, none⟩ = some (.slice uo m ucap) := (by simp [World.cell?, hX2]); have x5 : X.cell? ⟨w6.heap.size, 5, none⟩ = some (.slice vo m vcap) := (by simp [World.cell?, hX2]); have x6 : X.cell? ⟨w6.heap.size, 6, none⟩ = some (.map (some ma)) := (by simp [World.cell?, hX2]); have x7 : X.cell? ⟨w6.heap.size, 7, none⟩ = some (.map (some me)) := (by simp [World.cell?, hX2]); have ka7 := keep_cell hX1 (Nat.le_refl _) ka; have kb7 := keep_cell hX1 (Nat.le_refl _) kb; clear hX2) | fail)
  clear ka kb
  have ka := ka7
  have kb := kb7
  clear ka7 kb7
  have B7 := B6.next hX1
  have GO7 := GO.next hX1
  obtain ⟨xb, hxb⟩ : ∃ xb, w6.heap.size = xb := ⟨_, rfl⟩
  simp only [hxb] at x0 x1 x2 x3 x4 x5 x6 x7 ⊢
  have hxbl : w.heap.size ≤ xb := by
    have := B6.sz
    omega
  clear hX1 b6 B6 GO B5 b5 hxb
  have htn24 : tn < 24 := by omega
  have hm1 : m ≤ 100000 := by
    have := (cenv_of hH.1).m1000
    have h2 := (hok_len hH).1
    omega
  have HCU : Hid (∀ W, Below X.heap.size X W → Calls Tryz.prog 70 #[.agg #[.int .i64 p, .slice ao n cap, .slice po k pcap, .slice eo m ecap, .slice uo m ucap, .slice vo m vcap, .map (some ma), .map (some me)], .int .i64 (ra : Int), .int .i64 (tn : Int), .bool true] W fun e w' => ∃ g c, e = .returned (.slice (some ⟨g, 0, none⟩) (chE (cl Lc Hc Uc ra m) Uc Lc Hc m tn tn).length c) ∧ SOwn w' W.heap.size (some ⟨g, 0, none⟩) c ((chE (cl Lc Hc Uc ra m) Uc Lc Hc m tn tn).map fun i => (i, true)) ∧ Below W.heap.size W w') := fun W hA => climbed_any p ao n cap po k pcap eo m ecap Lc Hc uo ucap Uc vo vcap Vc ma me ra tn true hran htn hk24 hed HE.out hIU hIV hm1 W (GO7.rows.eds.below hA (Nat.le_refl _)) (GO7.rows.up.below hA (Nat.le_refl _)) (GO7.rows.dn.below hA (Nat.le_refl _))
  have HCV : Hid (∀ W, Below X.heap.size X W → Calls Tryz.prog 70 #[.agg #[.int .i64 p, .slice ao n cap, .slice po k pcap, .slice eo m ecap, .slice uo m ucap, .slice vo m vcap, .map (some ma), .map (some me)], .int .i64 (rb : Int), .int .i64 (tn : Int), .bool false] W fun e w' => ∃ g c, e = .returned (.slice (some ⟨g, 0, none⟩) (chE (cl Lc Hc Vc rb m) Vc Lc Hc m tn tn).length c) ∧ SOwn w' W.heap.size (some ⟨g, 0, none⟩) c ((chE (cl Lc Hc Vc rb m) Vc Lc Hc m tn tn).map fun i => (i, false)) ∧ Below W.heap.size W w') := fun W hA => climbed_any p ao n cap po k pcap eo m ecap Lc Hc uo ucap Uc vo vcap Vc ma me rb tn false hrbn htn hk24 hed HE.out hIU hIV hm1 W (GO7.rows.eds.below hA (Nat.le_refl _)) (GO7.rows.up.below hA (Nat.le_refl _)) (GO7.rows.dn.below hA (Nat.le_refl _))
  have HUN : Hid (∀ W, Below X.heap.size X W → GOn W ao n F T G po k P eo m Lc Hc uo Uc vo Vc ma me) := fun W hA => GO7.next hA
  have hlu := chE_len CU tn tn
  have hlv := chE_len CV tn tn
  have HST : Hid (rtSt Lc Hc Uc Vc m ra rb tn = ((chE (cl Lc Hc Vc rb m) Vc Lc Hc m tn tn).map fun i => (i, false)).reverse ++ (chE (cl Lc Hc Uc ra m) Uc Lc Hc m tn tn).map fun i => (i, true)) := rfl
  have HRI : Hid (∀ s ∈ rtSt Lc Hc Uc Vc m ra rb tn, s.1 < m ∧ (if s.2 = true then Uc s.1 else Vc s.1) < 1000000000000 ∧ (Hc s.1).toNat ≤ tn) := rtSt_in CU CV
  have HRL : Hid (((netOf n F T G P m Lc Hc Uc Vc).rest ((rtSt Lc Hc Uc Vc m ra rb tn).reverse.map (rkS Lc Hc))).length ≤ 400000000) := rtW_len _ CU CV HE.out htn24
  generalize chE (cl Lc Hc Uc ra m) Uc Lc Hc m tn tn = eu at HCU HST hlu
  generalize chE (cl Lc Hc Vc rb m) Vc Lc Hc m tn tn = ev at HCV HST hlv
  have HD : Hid (Gd p n F T G k P m Lc Hc Uc Vc) := D
  clear GO7 D CU CV hed hIU hIV htold hU2 hV2 he2 hp hr hran hrbn
  have HXL : Hid (xb < X.heap.size) := lt_of_cell x0
  have hdr := (Below.refl X.heap.size X).drew
  replace x0 := keep_cell hdr (Nat.le_refl _) x0
  replace x1 := keep_cell hdr (Nat.le_refl _) x1
  replace x2 := keep_cell hdr (Nat.le_refl _) x2
  replace x3 := keep_cell hdr (Nat.le_refl _) x3
  replace x4 := keep_cell hdr (Nat.le_refl _) x4
  replace x5 := keep_cell hdr (Nat.le_refl _) x5
  replace x6 := keep_cell hdr (Nat.le_refl _) x6
  replace x7 := keep_cell hdr (Nat.le_refl _) x7
  replace ka := keep_cell hdr (Nat.le_refl _) ka
  replace kb := keep_cell hdr (Nat.le_refl _) kb
  go_region_held3 (fun w' => w'.cell? ⟨xb, 0, none⟩ = some (.int .i64 p) ∧ w'.cell? ⟨xb, 1, none⟩ = some (.slice ao n cap) ∧ w'.cell? ⟨xb, 2, none⟩ = some (.slice po k pcap) ∧ w'.cell? ⟨xb, 3, none⟩ = some (.slice eo m ecap) ∧ w'.cell? ⟨xb, 4, none⟩ = some (.slice uo m ucap) ∧ w'.cell? ⟨xb, 5, none⟩ = some (.slice vo m vcap) ∧ w'.cell? ⟨xb, 6, none⟩ = some (.map (some ma)) ∧ w'.cell? ⟨xb, 7, none⟩ = some (.map (some me)) ∧ w'.cell? ⟨bq, oq + an, none⟩ = some (.int .i64 (ra : Int)) ∧ w'.cell? ⟨bq, oq + bn, none⟩ = some (.int .i64 (rb : Int)))
    (first | (refine ⟨?_, ?_, ?_, ?_, ?_, ?_, ?_, ?_, ?_, ?_⟩; exact keep_cell b8 (Nat.le_refl _) x0; exact keep_cell b8 (Nat.le_refl _) x1; exact keep_cell b8 (Nat.le_refl _) x2; exact keep_cell b8 (Nat.le_refl _) x3; exact keep_cell b8 (Nat.le_refl _) x4; exact keep_cell b8 (Nat.le_refl _) x5; exact keep_cell b8 (Nat.le_refl _) x6; exact keep_cell b8 (Nat.le_refl _) x7; exact keep_cell b8 (Nat.le_refl _) ka; exact keep_cell b8 (Nat.le_refl _) kb) | go_keep)
    (first | (go_at_call 70; with_reducible refine (HCU.out _ hdr).mono ?_; rintro e w8 ⟨g1, c1, rfl, O1, b8⟩))
  have hA8 := below_next hdr (Nat.le_refl _) b8
  have hg1l := O1.lt
  have HX8 : Hid (X.heap.size ≤ w8.heap.size) := hA8.size
  replace x0 := keep_cell b8 (Nat.le_refl _) x0
  replace x1 := keep_cell b8 (Nat.le_refl _) x1
  replace x2 := keep_cell b8 (Nat.le_refl _) x2
  replace x3 := keep_cell b8 (Nat.le_refl _) x3
  replace x4 := keep_cell b8 (Nat.le_refl _) x4
  replace x5 := keep_cell b8 (Nat.le_refl _) x5
  replace x6 := keep_cell b8 (Nat.le_refl _) x6
  replace x7 := keep_cell b8 (Nat.le_refl _) x7
  replace ka := keep_cell b8 (Nat.le_refl _) ka
  replace kb := keep_cell b8 (Nat.le_refl _) kb
  clear hdr b8 HCU
  go_wp2_with fail
  have hdr := (Below.refl w8.heap.size w8).drew
  replace x0 := keep_cell hdr (Nat.le_refl _) x0
  replace x1 := keep_cell hdr (Nat.le_refl _) x1
  replace x2 := keep_cell hdr (Nat.le_refl _) x2
  replace x3 := keep_cell hdr (Nat.le_refl _) x3
  replace x4 := keep_cell hdr (Nat.le_refl _) x4
  replace x5 := keep_cell hdr (Nat.le_refl _) x5
  replace x6 := keep_cell hdr (Nat.le_refl _) x6
  replace x7 := keep_cell hdr (Nat.le_refl _) x7
  replace ka := keep_cell hdr (Nat.le_refl _) ka
  replace kb := keep_cell hdr (Nat.le_refl _) kb
  have hA9 := below_next hA8 (Nat.le_refl _) hdr
  replace O1 := O1.next hdr
  go_region_held3 (fun w' => w'.cell? ⟨xb, 0, none⟩ = some (.int .i64 p) ∧ w'.cell? ⟨xb, 1, none⟩ = some (.slice ao n cap) ∧ w'.cell? ⟨xb, 2, none⟩ = some (.slice po k pcap) ∧ w'.cell? ⟨xb, 3, none⟩ = some (.slice eo m ecap) ∧ w'.cell? ⟨xb, 4, none⟩ = some (.slice uo m ucap) ∧ w'.cell? ⟨xb, 5, none⟩ = some (.slice vo m vcap) ∧ w'.cell? ⟨xb, 6, none⟩ = some (.map (some ma)) ∧ w'.cell? ⟨xb, 7, none⟩ = some (.map (some me)) ∧ w'.cell? ⟨bq, oq + an, none⟩ = some (.int .i64 (ra : Int)) ∧ w'.cell? ⟨bq, oq + bn, none⟩ = some (.int .i64 (rb : Int)))
    (first | (refine ⟨?_, ?_, ?_, ?_, ?_, ?_, ?_, ?_, ?_, ?_⟩; exact keep_cell b9 (Nat.le_refl _) x0; exact keep_cell b9 (Nat.le_refl _) x1; exact keep_cell b9 (Nat.le_refl _) x2; exact keep_cell b9 (Nat.le_refl _) x3; exact keep_cell b9 (Nat.le_refl _) x4; exact keep_cell b9 (Nat.le_refl _) x5; exact keep_cell b9 (Nat.le_refl _) x6; exact keep_cell b9 (Nat.le_refl _) x7; exact keep_cell b9 (Nat.le_refl _) ka; exact keep_cell b9 (Nat.le_refl _) kb) | go_keep)
    (first | (go_at_call 70; with_reducible refine (HCV.out _ hA9).mono ?_; rintro e w9 ⟨g2, c2, rfl, O2, b9⟩))
  have hA10 := below_next hA9 (Nat.le_refl _) b9
  replace x0 := keep_cell b9 (Nat.le_refl _) x0
  replace x1 := keep_cell b9 (Nat.le_refl _) x1
  replace x2 := keep_cell b9 (Nat.le_refl _) x2
  replace x3 := keep_cell b9 (Nat.le_refl _) x3
  replace x4 := keep_cell b9 (Nat.le_refl _) x4
  replace x5 := keep_cell b9 (Nat.le_refl _) x5
  replace x6 := keep_cell b9 (Nat.le_refl _) x6
  replace x7 := keep_cell b9 (Nat.le_refl _) x7
  replace ka := keep_cell b9 (Nat.le_refl _) ka
  replace kb := keep_cell b9 (Nat.le_refl _) kb
  replace O1 := O1.next b9
  clear hdr b9 HCV hA9 hA8
  go_wp2_with fail
  have hg2l := O2.lt
  have hsX := hA10.size
  have hX8 : X.heap.size ≤ w8.heap.size := HX8.out
  have hxl : xb < X.heap.size := HXL.out
  simp only [World.size_drew] at hg1l hg2l
  have hRv := reverse_any _ g2 c2 (ev.map fun i => (i, false)) (by simp; omega) w9 O2
  rw [List.length_map] at hRv
  refine hRv.mono ?_
  clear hRv O2
  rintro e w10 ⟨rfl, O2, hg10⟩
  have hs10 := hg10.size
  have hA11 := hA10.trans (gr_below hg10 (by omega) (by omega))
  replace O1 := O1.grown hg10 (fun z e q => by have e1 : g1 = z := (by simpa [Value.ownBlock] using e); have e2 : g2 = z := (by simpa using q); omega)
  have hA10' := gr_below (B := w8.heap.size) hg10 (by omega) (by omega)
  have t0 : w10.cell? ⟨xb, 0, none⟩ = some (.int .i64 p) := hg10.cell x0 (by simp; omega)
  have t1 : w10.cell? ⟨xb, 1, none⟩ = some (.slice ao n cap) := hg10.cell x1 (by simp; omega)
  have t2 : w10.cell? ⟨xb, 2, none⟩ = some (.slice po k pcap) := hg10.cell x2 (by simp; omega)
  have t3 : w10.cell? ⟨xb, 3, none⟩ = some (.slice eo m ecap) := hg10.cell x3 (by simp; omega)
  have t4 : w10.cell? ⟨xb, 4, none⟩ = some (.slice uo m ucap) := hg10.cell x4 (by simp; omega)
  have t5 : w10.cell? ⟨xb, 5, none⟩ = some (.slice vo m vcap) := hg10.cell x5 (by simp; omega)
  have t6 : w10.cell? ⟨xb, 6, none⟩ = some (.map (some ma)) := hg10.cell x6 (by simp; omega)
  have t7 : w10.cell? ⟨xb, 7, none⟩ = some (.map (some me)) := hg10.cell x7 (by simp; omega)
  clear x0 x1 x2 x3 x4 x5 x6 x7 ka kb hA10'
  have HWT : Hid (∀ s ∈ rtSt Lc Hc Uc Vc m ra rb tn, s.1 < m ∧ (netOf n F T G P m Lc Hc Uc Vc).wt (Lc s.1).toNat (Hc s.1).toNat s.2 < 1000000000000) := fun s hs => by
    obtain ⟨h1, h2, _⟩ := HRI.out s hs
    refine ⟨h1, ?_⟩
    obtain ⟨qe, hqe⟩ := HD.out.q
    have h3 := HE.out s.1 h1
    have hf : fnd Lc Hc (((Lc s.1).toNat : Nat) : Int) (((Hc s.1).toNat : Nat) : Int) m = s.1 := fnd_is hqe h1 (by omega) (by omega)
    unfold Net.wt netOf
    simp only [hf]
    exact h2
  go_wp2_with fail
  have hdr := (Below.refl w10.heap.size w10).drew
  replace t0 := keep_cell hdr (Nat.le_refl _) t0
  replace t1 := keep_cell hdr (Nat.le_refl _) t1
  replace t2 := keep_cell hdr (Nat.le_refl _) t2
  replace t3 := keep_cell hdr (Nat.le_refl _) t3
  replace t4 := keep_cell hdr (Nat.le_refl _) t4
  replace t5 := keep_cell hdr (Nat.le_refl _) t5
  replace t6 := keep_cell hdr (Nat.le_refl _) t6
  replace t7 := keep_cell hdr (Nat.le_refl _) t7
  replace O1 := O1.next hdr
  replace O2 := O2.next hdr
  replace hA11 := below_next hA11 (Nat.le_refl _) hdr
  have hsd : w10.drew.heap.size = w10.heap.size := rfl
  clear hdr
  have hel : eu.length + ev.length ≤ 1000 := by omega
  have hlen9 : (rtSt Lc Hc Uc Vc m ra rb tn).length = ev.length + eu.length := by rw [HST.out]; simp
  have HC9 : Hid (∀ g' c' W, w10.drew.grownBy W (some g2) → SOwn W w8.heap.size (some ⟨g', 0, none⟩) c' (((ev.map fun i => (i, false)).reverse) ++ (eu.map fun i => (i, true))) → Calls Tryz.prog 72 #[.agg #[.int .i64 p, .slice ao n cap, .slice po k pcap, .slice eo m ecap, .slice uo m ucap, .slice vo m vcap, .map (some ma), .map (some me)], .int .i64 (an : Int), .slice (some ⟨g', 0, none⟩) (ev.length + eu.length) c'] W fun x w' => ∃ g gc, x = .returned (.slice (some ⟨g, 0, none⟩) ((netOf n F T G P m Lc Hc Uc Vc).rest ((rtSt Lc Hc Uc Vc m ra rb tn).reverse.map (rkS Lc Hc))).length.succ gc) ∧ LOwn w' W.heap.size (some ⟨g, 0, none⟩) gc ((an : Int) :: (netOf n F T G P m Lc Hc Uc Vc).rest ((rtSt Lc Hc Uc Vc m ra rb tn).reverse.map (rkS Lc Hc))) ∧ Below W.heap.size W w') := fun g' c' W hgW hO => by
    have hsz9 := hA11.size
    have := unpack_any p ao n cap F T G po k pcap P eo m ecap Lc Hc uo ucap Uc vo vcap Vc ma me HD.out (an : Int) g' 0 c' (rtSt Lc Hc Uc Vc m ra rb tn) (by have := HRL.out; omega) HWT.out W (HUN.out _ (hA11.trans (gr_below hgW (by omega) (by omega)))) (by rw [HST.out]; exact hO.row) hO.lt.2 (by rw [hlen9]; have := hO.cap; simpa using this)
    rw [hlen9] at this
    exact this
  have hr9 := O1.row
  have hle1 : ((ev.map fun i => (i, false)).reverse : List (Nat × Bool)).length = ev.length := by simp
  have hle2 : (eu.map fun i => (i, true) : List (Nat × Bool)).length = eu.length := by simp
  have hle3 : ev.length ≤ 1000000 := by omega
  have hle4 : eu.length ≤ 1000000 := by omega
  have hle5 : w8.heap.size ≤ w10.drew.heap.size := by omega
  have hO29 : SOwn w10.drew w8.heap.size (some ⟨g2, 0, none⟩) c2 ((ev.map fun i => (i, false)).reverse) := O2.from (by simp)
  go_region_held3 (fun w' => w'.cell? ⟨xb, 0, none⟩ = some (.int .i64 p) ∧ w'.cell? ⟨xb, 1, none⟩ = some (.slice ao n cap) ∧ w'.cell? ⟨xb, 2, none⟩ = some (.slice po k pcap) ∧ w'.cell? ⟨xb, 3, none⟩ = some (.slice eo m ecap) ∧ w'.cell? ⟨xb, 4, none⟩ = some (.slice uo m ucap) ∧ w'.cell? ⟨xb, 5, none⟩ = some (.slice vo m vcap) ∧ w'.cell? ⟨xb, 6, none⟩ = some (.map (some ma)) ∧ w'.cell? ⟨xb, 7, none⟩ = some (.map (some me)))
    (first | (refine ⟨?_, ?_, ?_, ?_, ?_, ?_, ?_, ?_⟩; exact s0; exact s1; exact s2; exact s3; exact s4; exact s5; exact s6; exact s7) | (refine ⟨?_, ?_, ?_, ?_, ?_, ?_, ?_, ?_⟩; exact r0; exact r1; exact r2; exact r3; exact r4; exact r5; exact r6; exact r7) | go_keep)
    (first
      | (refine step_appZ ?_ (.tmp 80) (.tmp 81) ?_ 82 ?_ w8.heap.size c2 g2 ((ev.map fun i => (i, false)).reverse) (eu.map fun i => (i, true)) ev.length eu.length hle1 ?_ hO29 g1 c1 hle2 ?_ hr9 hle3 hle4 hle5 ?_; rfl; rfl; rfl; rfl; rfl; intro g' c' w11 O4 hg11; have r0 : w11.cell? ⟨xb, 0, none⟩ = some (.int .i64 p) := hg11.cell t0 (by simp; omega); have r1 : w11.cell? ⟨xb, 1, none⟩ = some (.slice ao n cap) := hg11.cell t1 (by simp; omega); have r2 : w11.cell? ⟨xb, 2, none⟩ = some (.slice po k pcap) := hg11.cell t2 (by simp; omega); have r3 : w11.cell? ⟨xb, 3, none⟩ = some (.slice eo m ecap) := hg11.cell t3 (by simp; omega); have r4 : w11.cell? ⟨xb, 4, none⟩ = some (.slice uo m ucap) := hg11.cell t4 (by simp; omega); have r5 : w11.cell? ⟨xb, 5, none⟩ = some (.slice vo m vcap) := hg11.cell t5 (by simp; omega); have r6 : w11.cell? ⟨xb, 6, none⟩ = some (.map (some ma)) := hg11.cell t6 (by simp; omega); have r7 : w11.cell? ⟨xb, 7, none⟩ = some (.map (some me)) := hg11.cell t7 (by simp; omega))
      | (go_at_call 72; refine (HC9.out g' c' w11 hg11 O4).mono ?_; rintro e w12 ⟨g3, c3, rfl, O3, b12⟩; have s0 := keep_cell b12 (Nat.le_refl _) r0; have s1 := keep_cell b12 (Nat.le_refl _) r1; have s2 := keep_cell b12 (Nat.le_refl _) r2; have s3 := keep_cell b12 (Nat.le_refl _) r3; have s4 := keep_cell b12 (Nat.le_refl _) r4; have s5 := keep_cell b12 (Nat.le_refl _) r5; have s6 := keep_cell b12 (Nat.le_refl _) r6; have s7 := keep_cell b12 (Nat.le_refl _) r7))
  have hs11 := hg11.size
  have hsz9 := hA11.size
  have BB : Below w.heap.size w w12 := B7.bel.trans ((below_next (hA11.trans (gr_below hg11 (by omega) (by omega))) (Nat.le_refl _) b12).mono B7.bel.size)
  have hsw := B7.sz
  have h3l := O3.at (x := g3) rfl
  go_wp2
  refine bodyPost_ret (v := .tuple #[.slice (some ⟨g3, 0, none⟩) ((netOf n F T G P m Lc Hc Uc Vc).rest ((rtSt Lc Hc Uc Vc m ra rb tn).reverse.map (rkS Lc Hc))).length.succ c3, .int .i64 sm]) (by simp [results, Tryz.results23, go_sem]) rfl ?_
  rw [HY.out, hAq]
  exact ⟨some ⟨g3, 0, none⟩, c3, rfl, fun _ => ⟨g3, rfl, by omega, O3.from (by omega)⟩, BB⟩

end Go.Proofs.YtokaechbmnbbiabGreat
