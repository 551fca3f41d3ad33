/-
  Helpers: HierOk, SvQ, CmdP, Map, Nums, LWt, Weigh, Rw.
-/
import Derived.Test.YthmpliljffmmcaaGreatDoorPack1
import Derived.Test.YthmpliljffmmcaaGreatDoorPack9
import Derived.Test.YthmpliljffmmcaaGreatDoorPack4
import Derived.Test.YthmpliljffmmcaaGreatDoorPack5
import Derived.Test.YthmpliljffmmcaaGreatDoorPack13
import Derived.Deep.RegionHeld3
import Derived.Test.YthmpliljffmmcaaGreatDoorPack10
import Derived.Maps.Own
import Derived.Maps.OwnOps
import Derived.Maps.OwnSet
import Derived.Maps.Views
import Derived.DeepKeys4
import Derived.Test.YthmpliljffmmcaaGreatDoorPack6
set_option linter.unusedVariables false
set_option linter.unusedSimpArgs false
namespace Go.Proofs.YthmpliljffmmcaaGreatDoor
section
open Go.RowKit Go.Deep Go.Joins
attribute [local go_sem ↓] Go.wp_at_zero Go.wp_at_succ
def HOk (p : Int) (n : Nat) (F T G : Nat → Int) (k : Nat) (P : Nat → Int) (m : Nat) (L H : Nat → Int) : Prop := ordB p n F T G k P = true ∧ SameE m (lenF p n F T G k P) L H (Lf (lstF p n F T P)) (Hf (lstF p n F T P))
theorem box2b {w W : World} {a0 a1 c0 c1 : Value} {s t : TypeId} (h : Below (w.heap.size + 2) ((w.alloc (.cells #[a0, a1] s)).alloc (.cells #[c0, c1] t)) W) :
    (W.cell? ⟨w.heap.size, 0, none⟩ = some a0 ∧ W.cell? ⟨w.heap.size, 1, none⟩ = some a1) ∧ (W.cell? ⟨w.heap.size + 1, 0, none⟩ = some c0 ∧ W.cell? ⟨w.heap.size + 1, 1, none⟩ = some c1) ∧ w.heap.size + 2 ≤ W.heap.size := by
  obtain ⟨h1, h2, _, h4⟩ := box22 h
  exact ⟨h1, h2, h4⟩
theorem erow_of' {w W : World} {e : Ending} {m : Nat} {L H : Nat → Int} {ao : Option Addr} (h : 0 < m → ∃ g, ao = some ⟨g, 0, none⟩ ∧ w.heap.size ≤ g ∧ EHas W g m (er L H)) : ERow W ao m L H := fun k hk => by
  obtain ⟨g, e, _, hI⟩ := h (by omega)
  subst e
  exact hI.row k hk
set_option maxHeartbeats 1000000 in
theorem implHierOk_any (p : Int) (ao : Option Addr) (n cap : Nat) (F T G : Nat → Int) (po : Option Addr) (k pcap : Nat) (P : Nat → Int) (eo : Option Addr) (m ecap : Nat) (L H : Nat → Int) (hn : n ≤ 1048576) (hk : k ≤ 1048576) (hm : m ≤ 1048576) (w : World) (hr : Row w ao n F T G) (hp : IRow w po k P) (he : ERow w eo m L H) :
    Calls Tryz.prog 31 #[.agg #[.int .i64 p, .slice ao n cap], .agg #[.slice po k pcap, .slice eo m ecap]] w fun e w' => BAns e (HOk p n F T G k P m L H) ∧ Below w.heap.size w w' := by
  rcases Bool.eq_false_or_eq_true (ordB p n F T G k P) with h | h
  rotate_left
  · have HN : Hid (¬ HOk p n F T G k P m L H) := fun x => by rw [x.1] at h; cases h
    have hA0 : Below (w.heap.size + 2) ((w.alloc (.cells #[.int .i64 p, .slice ao n cap] 26)).alloc (.cells #[.slice po k pcap, .slice eo m ecap] 30)) ((w.alloc (.cells #[.int .i64 p, .slice ao n cap] 26)).alloc (.cells #[.slice po k pcap, .slice eo m ecap] 30)).drew := (Below.refl _ _).drew
    obtain ⟨⟨q0, q1⟩, ⟨q2, q3⟩, q6⟩ := box2b hA0
    go_enter Tryz.func31, Tryz.ntmps31
    go_wp2_with fail
    refine wp_region_held_drew (S := fun w' => w'.cell? ⟨w.heap.size, 0, none⟩ = some (.int .i64 p) ∧ w'.cell? ⟨w.heap.size, 1, none⟩ = some (.slice ao n cap) ∧ w'.cell? ⟨w.heap.size + 1, 0, none⟩ = some (.slice po k pcap) ∧ w'.cell? ⟨w.heap.size + 1, 1, none⟩ = some (.slice eo m ecap)) (by kernel_rfl) ⟨q0, q1, q2, q3⟩ (fun hS => ?_)
    refine tK 0 (some 5) (.agg #[.int .i64 p, .slice ao n cap]) rfl rfl hS (fun w hSw => by go_split_ands; go_simp) ?_
    simp only [pS]
    refine tK 1 (some 6) (.pointer (some ⟨w.heap.size + 1, 0, none⟩)) rfl rfl hS (fun w hSw => by go_split_ands; go_simp) ?_
    simp only [pS]
    refine tK 2 (some 7) (.slice po k pcap) rfl rfl hS (fun w hSw => by go_split_ands; go_simp) ?_
    simp only [pS]
    refine step1H 3 _ rfl (by kernel_rfl) (by rfl) ?_
    go_simp
    refine (implOrderOk_any p ao n cap F T G po k pcap P hn hk _ (((hr.alloc _).alloc _).below hA0 (by simp)) (((hp.alloc _).alloc _).below hA0 (by simp))).mono ?_
    rw [h]
    rintro e w1 ⟨rfl, hb1⟩
    have hS1 := And.intro (keep_cell hb1 nl q0) (And.intro (keep_cell hb1 nl q1) (And.intro (keep_cell hb1 nl q2) (keep_cell hb1 nl q3)))
    refine ⟨hS1, ?_⟩
    refine tK 4 (some 9) (.bool false) rfl rfl hS1 (fun w hSw => by go_split_ands; go_simp) ?_
    simp only [pS]
    refine sK 5 (some 10) rfl rfl hS1 ?_
    simp only [pS]
    refine sK 7 (some 12) rfl rfl hS1 ?_
    simp only [pS]
    refine sK 8 (some 13) rfl rfl hS1 ?_
    simp only [pS]
    refine sK 6 (some 11) rfl rfl hS1 ?_
    simp only [pS]
    refine sK 9 (some 14) rfl rfl hS1 ?_
    simp only [pS]
    refine skip1H 10 (some 15) rfl rfl (by kernel_rfl) (by rfl) hS1 ?_
    simp only [pS]
    refine skip1H 11 (some 16) rfl rfl (by kernel_rfl) (by rfl) hS1 ?_
    simp only [pS]
    refine tK 12 (some 17) (.bool false) rfl rfl hS1 (fun w hSw => by go_split_ands; go_simp) ?_
    simp only [pS]
    refine tK 13 (some 4) (.bool false) rfl rfl hS1 (fun w hSw => by go_split_ands; go_simp) ?_
    simp only [pS]
    refine wpAnyH_done (by kernel_rfl) ?_ _
    go_wp2
    go_ret
    exact ⟨bans_no HN.out, unbox2 (below_next hA0 (by simp) hb1) (by omega)⟩
  have HC : Hid (HOk p n F T G k P m L H ↔ SameE m (lenF p n F T G k P) L H (Lf (lstF p n F T P)) (Hf (lstF p n F T P))) := ⟨fun x => x.2, fun x => ⟨h, x⟩⟩
  have hB := fun ao' cap' po' pcap' W hr' hp' => implFill_any p ao' n cap' F T G po' k pcap' P hn hk W hr' hp'
  have hlF := lenF_le p n F T G k P
  generalize lenF p n F T G k P = m' at hB hlF HC
  generalize Lf (lstF p n F T P) = L' at hB HC
  generalize Hf (lstF p n F T P) = H' at hB HC
  have HF : Hid (∀ ao' cap' po' pcap' W, Row W ao' n F T G → IRow W po' k P → Calls Tryz.prog 60 #[.agg #[.int .i64 p, .slice ao' n cap'], .slice po' k pcap'] W fun e w' => EAns W w' e m' L' H') := hB
  clear hB
  have hA0 : Below (w.heap.size + 2) ((w.alloc (.cells #[.int .i64 p, .slice ao n cap] 26)).alloc (.cells #[.slice po k pcap, .slice eo m ecap] 30)) ((w.alloc (.cells #[.int .i64 p, .slice ao n cap] 26)).alloc (.cells #[.slice po k pcap, .slice eo m ecap] 30)).drew := (Below.refl _ _).drew
  obtain ⟨⟨q0, q1⟩, ⟨q2, q3⟩, q6⟩ := box2b hA0
  go_enter Tryz.func31, Tryz.ntmps31
  go_wp2_with fail
  go_region_held3 (fun w' => w'.cell? ⟨w.heap.size, 0, none⟩ = some (.int .i64 p) ∧ w'.cell? ⟨w.heap.size, 1, none⟩ = some (.slice ao n cap) ∧ w'.cell? ⟨w.heap.size + 1, 0, none⟩ = some (.slice po k pcap) ∧ w'.cell? ⟨w.heap.size + 1, 1, none⟩ = some (.slice eo m ecap))
    (first | (go_split_ands; refine ⟨?_, ?_, ?_, ?_⟩ <;> exact keep_cell hb3 nl (by assumption)) | (go_split_ands; refine ⟨?_, ?_, ?_, ?_⟩ <;> exact keep_cell hb2 nl (by assumption)) | (go_split_ands; refine ⟨?_, ?_, ?_, ?_⟩ <;> exact keep_cell hb1 nl (by assumption)) | go_keep)
    (first | (go_at_call 58; refine (implOrderOk_any p ao n cap F T G po k pcap P hn hk _ (((hr.alloc _).alloc _).below hA0 (by simp)) (((hp.alloc _).alloc _).below hA0 (by simp))).mono ?_; rw [h]; rintro e w1 ⟨rfl, hb1⟩; have hA1 := below_next hA0 (by simp) hb1) | (go_at_call 60; refine (HF.out _ _ _ _ _ (((hr.alloc _).alloc _).below hA1 (by simp)) (((hp.alloc _).alloc _).below hA1 (by simp))).mono ?_; rintro e w2 ⟨aoE, capE, rfl, hE, hb2⟩; have hA2 := below_next hA1 (by simp) hb2) | (go_at_call 59; refine (equalE_any _ _ m m' _ _ L H L' H' hm (by omega) _ (((he.alloc _).alloc _).below hA2 (by simp)) (erow_of' (e := .outgrown) hE)).mono ?_; rintro e w3 ⟨⟨v, rfl, hv⟩, hb3⟩))
  go_wp2
  go_ret
  exact ⟨⟨v, rfl, hv.trans HC.out.symm⟩, unbox2 (below_next hA2 (by simp) hb3) (by omega)⟩
set_option maxHeartbeats 2000000 in
theorem specHierOk_any (p : Int) (ao : Option Addr) (n cap : Nat) (F T G : Nat → Int) (po : Option Addr) (k pcap : Nat) (P : Nat → Int) (eo : Option Addr) (m ecap : Nat) (L H : Nat → Int) (hn : n ≤ 1048576) (hk : k ≤ 1048576) (hm : m ≤ 1048576) (w : World) (hr : Row w ao n F T G) (hp : IRow w po k P) (he : ERow w eo m L H) :
    Calls Tryz.prog 32 #[.agg #[.int .i64 p, .slice ao n cap], .agg #[.slice po k pcap, .slice eo m ecap]] w fun e w' => BAns e (HOk p n F T G k P m L H) ∧ Below w.heap.size w w' := by
  rcases Bool.eq_false_or_eq_true (ordB p n F T G k P) with h | h
  rotate_left
  · have HN : Hid (¬ HOk p n F T G k P m L H) := fun x => by rw [x.1] at h; cases h
    go_enter Tryz.func32, Tryz.ntmps32
    go_wp2_with (go_at_call 61; refine (specOrderOk_any p ao n cap F T G po k pcap P hn hk _ ((hr.alloc _).alloc _) ((hp.alloc _).alloc _)).mono ?_; rw [h]; rintro e w1 ⟨rfl, hb1⟩)
    go_ret
    exact ⟨bans_no HN.out, unbox2 hb1 (by simp; omega)⟩
  have HC : Hid (HOk p n F T G k P m L H ↔ SameE m (lenF p n F T G k P) L H (Lf (lstF p n F T P)) (Hf (lstF p n F T P))) := ⟨fun x => x.2, fun x => ⟨h, x⟩⟩
  obtain ⟨hkp, hg, ⟨hk1, hk2⟩, hea⟩ := ordB_parts h
  subst hkp
  have hL : lenF k n F T G k P = (allS (nbA F T n) P k k).length := by simp [lenF, h, lstF]
  have hS : lstF k n F T P = allS (nbA F T n) P k k := by simp [lstF]
  have hle := lenF_le k n F T G k P
  rw [hL] at hle HC
  rw [hS] at HC
  obtain ⟨_, hn1, hF, hT, hFT⟩ := ok_arcs hg
  have hB := fun ao' cap' po' pcap' W hr' hp' => l4Fill_any k ao' n cap' F T G po' pcap' P hk1 hk2 hn1 hF hT hFT hea W hr' hp'
  generalize allS (nbA F T n) P k k = l at hB hle HC
  have HF : Hid (∀ ao' cap' po' pcap' W, Row W ao' n F T G → IRow W po' k P → Calls Tryz.prog 62 #[.agg #[.int .i64 (k : Int), .slice ao' n cap'], .slice po' k pcap'] W fun e w' => ∃ g c, e = .returned (.slice (some ⟨g, 0, none⟩) l.length c) ∧ W.heap.size ≤ g ∧ EOwn w' W.heap.size g c l ∧ Below W.heap.size W w') := hB
  clear hB hL hS hF hT hFT hea
  go_enter Tryz.func32, Tryz.ntmps32
  go_wp2_with fail
  refine (specOrderOk_any k ao n cap F T G po k pcap P hn hk _ ((hr.alloc _).alloc _) ((hp.alloc _).alloc _)).mono ?_
  rw [h]
  rintro e w1 ⟨rfl, hb1⟩
  have hA1 := hb1.mono (B' := w.heap.size + 2) (by simp)
  obtain ⟨⟨q0, q1⟩, ⟨q2, q3⟩, q6⟩ := box2b hA1
  clear hb1
  go_wp2_with fail
  refine (HF.out _ _ _ _ _ (((hr.alloc _).alloc _).below hA1 (by simp)) (((hp.alloc _).alloc _).below hA1 (by simp))).mono ?_
  rintro e w2 ⟨g, c, rfl, hg2, hE, hb2⟩
  have hA2 := below_next hA1 (by simp) hb2
  clear q0 q1 q2 q3 q6 hA1
  obtain ⟨⟨q0, q1⟩, ⟨q2, q3⟩, q6⟩ := box2b hA2
  have hE2 := hE.has
  clear hE hb2
  by_cases hnm : m = l.length
  rotate_left
  · have HN : Hid (¬ HOk k n F T G k P m L H) := fun h => hnm (HC.out.1 h).1
    have hnm' : ¬ (l.length : Int) = (m : Int) := by omega
    go_wp2
    go_ret
    exact ⟨bans_no HN.out, unbox2 hA2 (by omega)⟩
  subst hnm
  have HH : Hid (EHas w2 g l.length (er (Lf l) (Hf l))) := hE2
  have HER : Hid (ERow w2 eo l.length L H) := ((he.alloc _).alloc _).below hA2 (by simp)
  have HA2 : Hid (Below w.heap.size w w2) := unbox2 hA2 (by omega)
  clear hE2 hA2 hr hp he
  go_wp2
  go_loopw [6] (fun x wr => ∃ j : Nat, j ≤ l.length ∧ x = .int .i64 j ∧ (∀ i, i < j → L i = Lf l i ∧ H i = Hf l i) ∧ Below w2.heap.size w2 wr) (fun x _ => l.length - (intOf x).toNat)
  case atStart => exact ⟨0, Nat.zero_le _, rfl, fun i hi => by omega, Below.refl _ _⟩
  case round =>
    obtain ⟨j, hj, rfl, hall, hbel⟩ := hrel
    have HA : Hid (∀ i, i < j → L i = Lf l i ∧ H i = Hf l i) := hall
    replace q3 := keep_cell hbel nl q3
    clear hall q0 q1 q2
    by_cases hlt : j < l.length
    rotate_left
    · have hkn : j = l.length := by omega
      subst hkn
      go_wp2
      go_ret
      exact ⟨bans_yes (HC.out.2 ⟨rfl, HA.out⟩), below_next HA2.out nl hbel⟩
    obtain ⟨b', o', hao', d0, d1⟩ := (HER.out.below hbel nl) j hlt
    subst hao'
    have hEw := HH.out.next hbel
    have c0 := hEw.cell (j := j * 2) (by omega)
    have c1 := hEw.cell (j := j * 2 + 1) (by omega)
    rw [er0] at c0
    rw [er1] at c1
    have hk1 : (0 : Int) ≤ (j : Int) := by omega
    have hk2 : (j : Int) < (l.length : Int) := by omega
    clear hEw
    by_cases hx : L j = Lf l j ∧ H j = Hf l j
    · have HE : Hid (L j = Lf l j ∧ H j = Hf l j) := hx
      obtain ⟨e1, e2⟩ := hx
      rw [← e1] at c0
      rw [← e2] at c1
      clear e1 e2
      go_wp2
      go_quiet (fail)
      go_wp2
      go_roundw
      case rel => exact ⟨j + 1, by omega, by go_num, fun i hi => by
        by_cases x : i = j
        · subst x; exact HE.out
        · exact HA.out i (by omega), below_drewN hbel _⟩
      case measure => simp [intOf]; omega
    · have HE : Hid (¬ HOk k n F T G k P l.length L H) := fun h => hx ((HC.out.1 h).2 j hlt)
      have HB : Hid (∀ q, Below w.heap.size w (wr.drewN q)) := fun q => below_next HA2.out nl (below_drewN hbel q)
      by_cases h1 : Lf l j = L j
      · have h2 : ¬ Hf l j = H j := fun h => hx ⟨h1.symm, h.symm⟩
        rw [h1] at c0
        clear h1 hx
        go_wp2
        go_quiet (fail)
        go_wp2
        go_ret
        exact ⟨bans_no HE.out, HB.out _⟩
      · clear hx
        go_wp2
        go_quiet (fail)
        go_wp2
        go_ret
        exact ⟨bans_no HE.out, HB.out _⟩
end
section
open Go.ChangeShapes Go.WideShapes Go.ChangeAt Go.RowKit Go.Deep Go.Joins
attribute [local go_sem ↓] Go.wp_at_zero Go.wp_at_succ
def roomB (V : Int) (t : Nat) : Bool := inB V 0 100000 && decide (t ≤ 100000)
set_option maxHeartbeats 1000000 in
theorem hasRoom_any (p : Int) (ao po eo so : Option Addr) (n cap k pcap m ecap : Nat) (V : Int) (t scap : Nat) (ht : t ≤ 1048576) (w : World) :
    Calls Tryz.prog 25 #[.agg #[.int .i64 p, .slice ao n cap, .slice po k pcap, .slice eo m ecap, .int .i64 V, .slice so t scap]] w fun e w' => e = .returned (.bool (roomB V t)) ∧ Below w.heap.size w w' := by
  by_cases h1 : 0 ≤ V
  · by_cases h2 : V ≤ 100000
    · by_cases h3 : t ≤ 100000
      · have h3' : (t : Int) ≤ 100000 := by omega
        rw [show roomB V t = true from by simp [roomB, inB, h1, h2, h3]]
        go_enter Tryz.func25, Tryz.ntmps25
        go_wp2
        go_ret
        exact ⟨by first | rfl | exact ret_bool (by simp [*]), (Below.refl _ _).alloc nl _⟩
      · have h3' : ¬ (t : Int) ≤ 100000 := by omega
        rw [show roomB V t = false from by simp [roomB, h3]]
        go_enter Tryz.func25, Tryz.ntmps25
        go_wp2
        go_ret
        exact ⟨by first | rfl | exact ret_bool (by simp [*]), (Below.refl _ _).alloc nl _⟩
    · rw [show roomB V t = false from by simp [roomB, inB, h2]]
      go_enter Tryz.func25, Tryz.ntmps25
      go_wp2
      go_ret
      exact ⟨by first | rfl | exact ret_bool (by simp [*]), (Below.refl _ _).alloc nl _⟩
  · rw [show roomB V t = false from by simp [roomB, inB, h1]]
    go_enter Tryz.func25, Tryz.ntmps25
    go_wp2
    go_ret
    exact ⟨by first | rfl | exact ret_bool (by simp [*]), (Below.refl _ _).alloc nl _⟩
def SOk (p : Int) (n : Nat) (F T G : Nat → Int) (k : Nat) (P : Nat → Int) (m : Nat) (L H : Nat → Int) (V : Int) (t : Nat) : Prop := HOk p n F T G k P m L H ∧ roomB V t = true
set_option maxHeartbeats 1000000 in
theorem implServiceOk_any (p : Int) (ao : Option Addr) (n cap : Nat) (F T G : Nat → Int) (po : Option Addr) (k pcap : Nat) (P : Nat → Int) (eo : Option Addr) (m ecap : Nat) (L H : Nat → Int) (V : Int) (so : Option Addr) (t scap : Nat) (S : Nat → ByteArray) (hn : n ≤ 1048576) (hk : k ≤ 1048576) (hm : m ≤ 1048576) (ht : t ≤ 1048576) (w : World) (hr : Row w ao n F T G) (hp : IRow w po k P) (he : ERow w eo m L H) :
    Calls Tryz.prog 9 #[.agg #[.int .i64 p, .slice ao n cap, .slice po k pcap, .slice eo m ecap, .int .i64 V, .slice so t scap]] w fun e w' => BAns e (SOk p n F T G k P m L H V t) ∧ Below w.heap.size w w' := by
  have hA := (Below.refl w.heap.size w).alloc nl (.cells #[.int .i64 p, .slice ao n cap, .slice po k pcap, .slice eo m ecap, .int .i64 V, .slice so t scap] 33)
  have v := sv6_new w p (.slice ao n cap) (.slice po k pcap) (.slice eo m ecap) V (.slice so t scap) 33
  replace hr := hr.below hA nl
  replace hp := hp.below hA nl
  replace he := he.below hA nl
  go_enter Tryz.func9, Tryz.ntmps9
  go_wp2_with fail
  generalize (w.alloc (.cells #[.int .i64 p, .slice ao n cap, .slice po k pcap, .slice eo m ecap, .int .i64 V, .slice so t scap] 33)) = W at hA v hr hp he ⊢
  refine (implHierOk_any p ao n cap F T G po k pcap P eo m ecap L H hn hk hm _ hr hp he).mono ?_
  rintro e w1 ⟨⟨b, rfl, hb⟩, hb1⟩
  replace v := v.next hb1
  replace hA := below_next hA nl hb1
  have HB : Hid (b = true ↔ HOk p n F T G k P m L H) := hb
  clear hb hb1 hr hp he
  have x0 : w1.cell? ⟨w.heap.size, 0, none⟩ = some (.int .i64 p) := v.cell (j := 0) (by omega)
  have x1 : w1.cell? ⟨w.heap.size, 1, none⟩ = some (.slice ao n cap) := v.cell (j := 1) (by omega)
  have x2 : w1.cell? ⟨w.heap.size, 2, none⟩ = some (.slice po k pcap) := v.cell (j := 2) (by omega)
  have x3 : w1.cell? ⟨w.heap.size, 3, none⟩ = some (.slice eo m ecap) := v.cell (j := 3) (by omega)
  have x4 : w1.cell? ⟨w.heap.size, 4, none⟩ = some (.int .i64 V) := v.cell (j := 4) (by omega)
  have x5 : w1.cell? ⟨w.heap.size, 5, none⟩ = some (.slice so t scap) := v.cell (j := 5) (by omega)
  cases b
  · go_wp2
    go_ret
    exact ⟨bans_no (fun h => by have := HB.out.2 h.1; simp at this), hA⟩
  · go_wp2_with fail
    refine (hasRoom_any p ao po eo so n cap k pcap m ecap V t scap ht _).mono ?_
    rintro e w2 ⟨rfl, hb2⟩
    go_wp2
    go_ret
    exact ⟨⟨roomB V t, rfl, ⟨fun h => ⟨HB.out.1 (by first | rfl | trivial), h⟩, fun h => h.2⟩⟩, below_next hA nl hb2⟩
set_option maxHeartbeats 1000000 in
theorem specServiceOk_any (p : Int) (ao : Option Addr) (n cap : Nat) (F T G : Nat → Int) (po : Option Addr) (k pcap : Nat) (P : Nat → Int) (eo : Option Addr) (m ecap : Nat) (L H : Nat → Int) (V : Int) (so : Option Addr) (t scap : Nat) (S : Nat → ByteArray) (hn : n ≤ 1048576) (hk : k ≤ 1048576) (hm : m ≤ 1048576) (ht : t ≤ 1048576) (w : World) (hr : Row w ao n F T G) (hp : IRow w po k P) (he : ERow w eo m L H) :
    Calls Tryz.prog 10 #[.agg #[.int .i64 p, .slice ao n cap, .slice po k pcap, .slice eo m ecap, .int .i64 V, .slice so t scap]] w fun e w' => BAns e (SOk p n F T G k P m L H V t) ∧ Below w.heap.size w w' := by
  have hA := (Below.refl w.heap.size w).alloc nl (.cells #[.int .i64 p, .slice ao n cap, .slice po k pcap, .slice eo m ecap, .int .i64 V, .slice so t scap] 33)
  have v := sv6_new w p (.slice ao n cap) (.slice po k pcap) (.slice eo m ecap) V (.slice so t scap) 33
  replace hr := hr.below hA nl
  replace hp := hp.below hA nl
  replace he := he.below hA nl
  go_enter Tryz.func10, Tryz.ntmps10
  go_wp2_with fail
  generalize (w.alloc (.cells #[.int .i64 p, .slice ao n cap, .slice po k pcap, .slice eo m ecap, .int .i64 V, .slice so t scap] 33)) = W at hA v hr hp he ⊢
  refine (specHierOk_any p ao n cap F T G po k pcap P eo m ecap L H hn hk hm _ hr hp he).mono ?_
  rintro e w1 ⟨⟨b, rfl, hb⟩, hb1⟩
  replace v := v.next hb1
  replace hA := below_next hA nl hb1
  have HB : Hid (b = true ↔ HOk p n F T G k P m L H) := hb
  clear hb hb1 hr hp he
  have x4 : w1.cell? ⟨w.heap.size, 4, none⟩ = some (.int .i64 V) := v.cell (j := 4) (by omega)
  have x5 : w1.cell? ⟨w.heap.size, 5, none⟩ = some (.slice so t scap) := v.cell (j := 5) (by omega)
  cases b
  · go_wp2
    go_ret
    exact ⟨bans_no (fun h => by have := HB.out.2 h.1; simp at this), hA⟩
  · go_wp2_with fail
    refine (l1In_any V 0 100000 _).mono ?_
    rintro e w2 ⟨rfl, rfl⟩
    rcases Bool.eq_false_or_eq_true (inB V 0 100000) with hi | hi
    · rw [hi]
      by_cases h3 : t ≤ 100000
      · have h3' : (t : Int) ≤ 100000 := by omega
        go_wp2
        go_ret
        refine ⟨⟨true, by first | rfl | exact ret_bool (by simp [*]), ⟨fun _ => ⟨HB.out.1 (by first | rfl | trivial), by simp [roomB, hi, h3]⟩, fun _ => rfl⟩⟩, hA⟩
      · have h3' : ¬ (t : Int) ≤ 100000 := by omega
        go_wp2
        go_ret
        refine ⟨⟨false, by first | rfl | exact ret_bool (by simp [*]), ⟨fun h => by simp at h, fun h => by have := h.2; simp [roomB, h3] at this⟩⟩, hA⟩
    · rw [hi]
      go_wp2
      go_ret
      refine ⟨⟨false, by first | rfl | exact ret_bool (by simp [*]), ⟨fun h => by simp at h, fun h => by have := h.2; simp [roomB, hi] at this⟩⟩, hA⟩
end
section
def batB (F T G : Nat → Int) : Nat → Bool
  | 0 => true
  | k + 1 => batB F T G k && arcB (F k) (T k) (G k) 24
def batchB (F T G : Nat → Int) (n : Nat) : Bool := decide (1 ≤ n) && (decide (n ≤ 10) && batB F T G n)
def cmdB (K : Int) (n : Nat) (F T G : Nat → Int) (a b : Int) : Bool :=
  if K = 1 then decide (n = 0) && (decide (a = 0) && decide (b = 0))
  else if K = 2 then batchB F T G n && (decide (a = 0) && decide (b = 0))
  else if K = 3 then decide (n = 0) && (inB a 0 23 && inB b 0 23)
  else false
theorem batB_no {F T G : Nat → Int} : ∀ {n k : Nat}, k < n → arcB (F k) (T k) (G k) 24 = false → batB F T G n = false
  | 0, k, h, _ => by omega
  | n + 1, k, h, hb => by
    unfold batB
    by_cases e : k = n
    · subst e; rw [hb]; simp
    · rw [batB_no (n := n) (k := k) (by omega) hb]; simp
end
section
open Go.ChangeShapes Go.WideShapes Go.ChangeAt Go.RowKit Go.Maps
set_option maxRecDepth 100000 in
theorem Tryz.rowEnds : (110 : TypeId) < Tryz.prog.types.size := of_decide_eq_true (by kernel_rfl)
theorem Tryz.wideEnds : (match Tryz.prog.underlying 110 with | some (.array _ _) | some (.struct _) => true | _ => false) = true := by rw [Tryz.underlying110]
set_option maxRecDepth 100000 in
theorem Tryz.keyLaw : Keyed Tryz.prog 110 := Keyed.of_law (deep_law_laid Tryz.laidOut (m := 2) (by omega) Tryz.rowEnds (by kernel_rfl) Tryz.wideEnds)
theorem Tryz.keyType : Tryz.prog.keyType 110 = true := by kernel_rfl
theorem Tryz.cellsEnds : Tryz.prog.cellsOf 110 = 2 := by kernel_rfl
theorem Tryz.mapZero (w : World) : (zeroValue 3).run Tryz.prog w = .ok (.int .i64 0) w := by kernel_rfl
set_option maxRecDepth 100000 in
theorem Tryz.someTypes : ∃ m, Tryz.prog.types.size = m + 1 := ⟨_, (Nat.succ_pred_eq_of_pos (Nat.lt_of_le_of_lt (Nat.zero_le _) Tryz.rowEnds)).symm⟩
def kl (f t : Int) : Lit := .string (keyBytes [.int .i64 f, .int .i64 t])
set_option maxRecDepth 100000 in
theorem key_ends (f t : Int) (hf : (Lit.int .i64 f).wf = true) (ht : (Lit.int .i64 t).wf = true) : keyOf Tryz.prog 110 (.agg #[.int .i64 f, .int .i64 t]) = some (kl f t) := by
  exact key_two Tryz.underlying110 Tryz.keyType Tryz.cellsEnds Tryz.underlying2 Tryz.underlying2 rfl rfl Tryz.cellsInt Tryz.cellsInt (by decide) (by decide) Tryz.someTypes hf ht
theorem kl_inj {f t f' t' : Int} (hf : (Lit.int .i64 f).wf = true) (ht : (Lit.int .i64 t).wf = true) (hf' : (Lit.int .i64 f').wf = true) (ht' : (Lit.int .i64 t').wf = true) (h : kl f t = kl f' t') : f = f' ∧ t = t' := by
  have := Tryz.keyLaw.inj (key_ends f t hf ht) (by rw [h]; exact key_ends f' t' hf' ht')
  simpa using this
theorem kl_key (f t : Int) : WideAt.IsKeyLit (kl f t) := trivial
def nums (F T : Nat → Int) : Nat → DataW Unit
  | 0 => .map []
  | k + 1 => (nums F T k).put (kl (F k) (T k)) (.lit (.int .i64 (k : Int)))
theorem nums_isMap (F T : Nat → Int) : ∀ k, IsMap (nums F T k)
  | 0 => isMap_empty
  | k + 1 => (nums_isMap F T k).put _ _
def WfTo (F T : Nat → Int) (n : Nat) : Prop := ∀ k, k < n → (Lit.int .i64 (F k)).wf = true ∧ (Lit.int .i64 (T k)).wf = true
theorem nums_look (F T : Nat → Int) (a b : Int) (ha : (Lit.int .i64 a).wf = true) (hb : (Lit.int .i64 b).wf = true) : ∀ n, WfTo F T n →
    (Maps.has (nums F T n) (kl a b) = false ∧ ∀ k, k < n → ¬ (F k = a ∧ T k = b)) ∨
    ∃ k, k < n ∧ F k = a ∧ T k = b ∧ Maps.has (nums F T n) (kl a b) = true ∧ (nums F T n).atKey (kl a b) (.lit (.int .i64 0)) = .lit (.int .i64 (k : Int))
  | 0, _ => Or.inl ⟨rfl, fun k hk => by omega⟩
  | n + 1, hw => by
    by_cases h : F n = a ∧ T n = b
    · obtain ⟨rfl, rfl⟩ := h
      exact Or.inr ⟨n, by omega, rfl, rfl, has_put_same (nums_isMap F T n) (kl_key _ _) _, atKey_put_same (nums_isMap F T n) (kl_key _ _) _ _⟩
    · have hne : kl a b ≠ kl (F n) (T n) := fun e => by
        have := kl_inj ha hb (hw n (by omega)).1 (hw n (by omega)).2 e
        exact h ⟨this.1.symm, this.2.symm⟩
      rcases nums_look F T a b ha hb n (fun k hk => hw k (by omega)) with ⟨h1, h2⟩ | ⟨k, hk, h1, h2, h3, h4⟩
      · exact Or.inl ⟨by rw [nums, has_put_other hne]; exact h1, fun k hk => by
          by_cases e : k = n
          · subst e; exact h
          · exact h2 k (by omega)⟩
      · exact Or.inr ⟨k, by omega, h1, h2, by rw [nums, has_put_other hne]; exact h3, by rw [nums, atKey_put_other hne]; exact h4⟩
theorem make_map (n : Nat) (w : World) : (Instr.makeMap 175 (some (.int .i64 (n : Int)))).run Tryz.prog w = .ok (.map (some w.heap.size)) (w.alloc (.map #[] 0)) := by
  simp [Instr.makeMap, run_underlying Tryz.underlying175, asInt, asIntOf, newObj]
  rfl
end
section
open Go.RowKit Go.Maps
set_option maxHeartbeats 1000000 in
theorem arcNumbers_any (p : Int) (ao : Option Addr) (n cap : Nat) (F T G : Nat → Int) (hn : n ≤ 1048576) (hwf : WfTo F T n) (w : World) (hr : Row w ao n F T G) :
    Calls Tryz.prog 133 #[.agg #[.int .i64 p, .slice ao n cap]] w fun e w' => e = .returned (.map (some (w.heap.size + 1))) ∧ w'.ownsMap Tryz.prog 110 (plainElem Tryz.prog 3) (w.heap.size + 1) n (nums F T n) ∧ Below w.heap.size w w' := by
  have hmk := make_map n
  go_enter Tryz.func133, Tryz.ntmps133
  go_wp2
  clear hmk
  go_loopw [13] (fun i wr => ∃ k : Nat, k ≤ n ∧ i = .int .i64 k ∧ wr.ownsMap Tryz.prog 110 (plainElem Tryz.prog 3) (w.heap.size + 1) k (nums F T k) ∧ Below (w.heap.size + 1) (w.alloc (.cells #[.int .i64 p, .slice ao n cap] 26)) wr) (fun i _ => n - (intOf i).toNat)
  case atStart => exact ⟨0, Nat.zero_le _, rfl, by simpa [nums] using World.ownsMap_made (w.alloc (.cells #[.int .i64 p, .slice ao n cap] 26)) Tryz.prog 110 (plainElem (H := Unit) Tryz.prog 3), (Below.refl _ _).alloc (by simp) _⟩
  case round =>
    obtain ⟨k, hk, rfl, hown, hbel⟩ := hrel
    have hsz : w.heap.size + 1 < wr.heap.size := hown.lt
    by_cases hlt : k < n
    rotate_left
    · have hkn : k = n := by omega
      subst hkn
      go_wp2
      go_ret
      exact ⟨rfl, hown, unbox hbel (by omega)⟩
    obtain ⟨b, o, hao, c0, c1, c2⟩ := ((hr.alloc _).below hbel (by simp)) k hlt
    subst hao
    have hkey := key_ends (F k) (T k) (hwf k hlt).1 (hwf k hlt).2
    go_wp2_with (first | (go_at_call 71; refine (endsOf_any _ _ _ _).mono ?_; rintro e w1 ⟨rfl, hb1⟩; have hown1 := ownsMap_below (hown.alloc _) hb1) | (at_mapUpdate; refine wpList_mapUpdate_own _ rfl _ _ _ 175 rfl 110 3 Tryz.keyLaw Tryz.underlying175 _ (w.heap.size + 1) k _ rfl hown1 (by unfold maxLen; omega) _ _ _ rfl rfl hkey _ [] (plainElem_int Tryz.underlying3 (WalkArith.wf_i64 (by omega))) ?_; intro w2 hown2 hgrow2))
    go_wp2
    go_roundw
    case rel => exact ⟨k + 1, by omega, by go_num, hown2, (below_next (hbel.alloc (by omega) _) (by simp) hb1).grown hgrow2 (by have := hb1.size; simp at this; omega) (fun j hj => by cases hj; exact Nat.le_refl _)⟩
    case measure => simp [intOf]; omega
def lastW (F T G : Nat → Int) (a b : Int) : Nat → Int
  | 0 => 1000000000000
  | k + 1 => if F k = a ∧ T k = b then G k else lastW F T G a b k
theorem lastW_at {F T G : Nat → Int} {a b : Int} {k : Nat} : ∀ n, (∀ j, j < n → F j = a → T j = b → j = k) → k < n → F k = a → T k = b → lastW F T G a b n = G k
  | 0, _, hk, _, _ => by omega
  | n + 1, hu, hk, hF, hT => by
    unfold lastW
    by_cases h : F n = a ∧ T n = b
    · rw [if_pos h, hu n (by omega) h.1 h.2]
    · rw [if_neg h]
      have : k ≠ n := fun e => h (e ▸ ⟨hF, hT⟩)
      exact lastW_at n (fun j hj => hu j (by omega)) (by omega) hF hT
theorem wf_small {p : Int} {F T G : Nat → Int} {n : Nat} (hp : inB p 1 24 = true) (h : arcsB p F T G n = true) : WfTo F T n := fun k hk => by
  have := (arcsB_each n h k hk).1
  simp [arcB, inB] at this hp
  exact ⟨WalkArith.wf_i64 (by omega), WalkArith.wf_i64 (by omega)⟩
def hit (F T : Nat → Int) (a b : Int) : Nat → Bool
  | 0 => false
  | k + 1 => hit F T a b k || (F k == a && T k == b)
def put (F T H : Nat → Int) (a b c : Int) (i : Nat) : Int := if F i = a ∧ T i = b then c else H i
def part (F T H : Nat → Int) (a b c : Int) (k i : Nat) : Int := if i < k ∧ F i = a ∧ T i = b then c else H i
def rw' (F T G A B C : Nat → Int) (n : Nat) : Nat → Option (Nat → Int)
  | 0 => some G
  | i + 1 => match rw' F T G A B C n i with
    | none => none
    | some H => if hit F T (A i) (B i) n && inB (C i) 1 1000000 then some (put F T H (A i) (B i) (C i)) else none
def resOf (p : Int) (n : Nat) (F T G : Nat → Int) (m : Nat) (A B C : Nat → Int) : Option (Nat → Int) := if graphB p n F T G then rw' F T G A B C n m else none
def IsRes (r : Option (Nat → Int)) (p : Int) (n : Nat) (p' : Int) (n' : Nat) (H : Nat → Int) (ok : Bool) : Prop :=
  (r = some H ∧ p' = p ∧ n' = n ∧ ok = true) ∨ (r = none ∧ p' = 0 ∧ n' = 0 ∧ ok = false)
theorem rw'_none {F T G A B C : Nat → Int} {n k : Nat} (h : rw' F T G A B C n k = none) : ∀ m, k ≤ m → rw' F T G A B C n m = none
  | 0, hk => by
    have : k = 0 := by omega
    subst this; exact h
  | m + 1, hk => by
    by_cases e : k = m + 1
    · subst e; exact h
    · rw [rw', rw'_none h m (by omega)]
theorem rw'_yes {F T G A B C H : Nat → Int} {n i : Nat} (h : rw' F T G A B C n i = some H) (h1 : hit F T (A i) (B i) n = true) (h2 : inB (C i) 1 1000000 = true) : rw' F T G A B C n (i + 1) = some (put F T H (A i) (B i) (C i)) := by
  simp [rw', h, h1, h2]
theorem rw'_no {F T G A B C H : Nat → Int} {n i : Nat} (h : rw' F T G A B C n i = some H) (hf : hit F T (A i) (B i) n = false ∨ inB (C i) 1 1000000 = false) : rw' F T G A B C n (i + 1) = none := by
  rcases hf with hf | hf <;> simp [rw', h, hf]
theorem part_zero {F T H : Nat → Int} {a b c : Int} (i : Nat) : part F T H a b c 0 i = H i := by simp [part]
theorem part_all {F T H : Nat → Int} {a b c : Int} {n i : Nat} (hi : i < n) : part F T H a b c n i = put F T H a b c i := by simp [part, put, hi]
theorem ar_congr {F T G G' : Nat → Int} {n : Nat} (h : ∀ i, i < n → G i = G' i) : ∀ j, j < n * 3 → ar F T G j = ar F T G' j := fun j hj => by
  unfold ar
  split
  · rfl
  · split
    · rfl
    · exact h _ (by omega)
theorem Has.weights {w : World} {b n : Nat} {F T G G' : Nat → Int} (h : Has w b n (ar F T G)) (e : ∀ i, i < n → G i = G' i) : Has w b n (ar F T G') := h.congr (ar_congr e)
theorem ar_set (F T H : Nat → Int) (k : Nat) (c : Int) (j : Nat) : (if j = k * 3 + 2 then c else ar F T H j) = ar F T (fun i => if i = k then c else H i) j := by
  unfold ar
  by_cases h0 : j % 3 = 0
  · rw [if_pos h0, if_pos h0, if_neg (by omega)]
  · by_cases h1 : j % 3 = 1
    · rw [if_neg h0, if_neg h0, if_pos h1, if_pos h1, if_neg (by omega)]
    · rw [if_neg h0, if_neg h0, if_neg h1, if_neg h1]
      by_cases e : j = k * 3 + 2
      · have : j / 3 = k := by omega
        simp [e, this] <;> omega
      · have : ¬ j / 3 = k := by omega
        simp [e, this]
theorem Has.weigh {w : World} {b n : Nat} {F T H : Nat → Int} (h : Has w b n (ar F T H)) (k : Nat) (c : Int) : Has (w.setCell ⟨b, k * 3 + 2, none⟩ (.int .i64 c)) b n (ar F T (fun i => if i = k then c else H i)) :=
  (h.set (k * 3 + 2) c).congr (fun j _ => ar_set F T H k c j)
theorem part_hit {F T H : Nat → Int} {a b c : Int} {k : Nat} (hF : F k = a) (hT : T k = b) (i : Nat) : (if i = k then c else part F T H a b c k i) = part F T H a b c (k + 1) i := by
  unfold part
  by_cases e : i = k
  · subst e; rw [if_pos rfl, if_pos ⟨by omega, hF, hT⟩]
  · rw [if_neg e]
    by_cases h : i < k ∧ F i = a ∧ T i = b
    · rw [if_pos h, if_pos ⟨by omega, h.2⟩]
    · rw [if_neg h, if_neg (fun h' => h ⟨by omega, h'.2⟩)]
theorem part_miss {F T H : Nat → Int} {a b c : Int} {k : Nat} (hm : ¬ (F k = a ∧ T k = b)) (i : Nat) : part F T H a b c k i = part F T H a b c (k + 1) i := by
  unfold part
  by_cases h : i < k ∧ F i = a ∧ T i = b
  · rw [if_pos h, if_pos ⟨by omega, h.2⟩]
  · rw [if_neg h, if_neg (fun h' => by
      by_cases e : i = k
      · subst e; exact hm h'.2
      · exact h ⟨by omega, h'.2⟩)]
end
end Go.Proofs.YthmpliljffmmcaaGreatDoor
