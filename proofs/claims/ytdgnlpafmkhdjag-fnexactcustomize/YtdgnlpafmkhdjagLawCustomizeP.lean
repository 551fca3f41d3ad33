/-
  Proved: at every map and every hierarchy the law FnExactCustomize answers true, and its arguments read behind the call as they read before. No condition.
-/
import Derived.Test.YtdgnlpafmkhdjagCusIP
import Derived.Test.YtdgnlpafmkhdjagPickP
import Derived.Test.YtdgnlpafmkhdjagLeafBP
import Derived.Test.YtdgnlpafmkhdjagPack6
set_option linter.unusedVariables false
set_option linter.unusedSimpArgs false
namespace Go.Proofs.Ytdgnlpafmkhdjag
open Go.ChangeShapes Go.WideShapes Go.ChangeAt Go.RowKit Go.Deep Go.Joins
attribute [local go_sem ↓] Go.wp_at_zero Go.wp_at_succ

set_option maxHeartbeats 8000000 in
theorem lawCustomize_walk (p : Int) (ao : Option Addr) (n cap : Nat) (F T G : Nat → Int) (po : Option Addr) (k pcap : Nat) (P : Nat → Int) (eo : Option Addr) (m ecap : Nat) (L H : Nat → Int) (hnM : n ≤ maxLen) (hkM : k ≤ maxLen) (hmM : m ≤ maxLen) (w : World) (hr : Row w ao n F T G) (hp : IRow w po k P) (he : ERow w eo m L H) :
    Calls Try.prog 8 #[.agg #[.int .i64 p, .slice ao n cap], .agg #[.slice po k pcap, .slice eo m ecap]] w fun e w' => e = .returned (.bool true) ∧ Below w.heap.size w w' := by
  unfold maxLen at hnM hkM hmM
  by_cases hbig0 : 1048576 < 0 + (n : Int)
  · go_enter Try.func8, Try.ntmps8
    have hB0 : Below w.heap.size w ((w.alloc (.cells #[.int .i64 p, .slice ao n cap] 38)).alloc (.cells #[.slice po k pcap, .slice eo m ecap] 53)) := (((Below.refl _ w).alloc (Nat.le_refl _) _).alloc (by simp) _)
    go_wp2_with fail
    refine (szGraph_out p ao n cap (1048576) (by omega) (by omega) (by omega) (by omega) _).mono ?_
    rintro e z0 ⟨rfl, hz0⟩
    replace hB0 := below_next hB0 (Nat.le_refl _) hz0
    go_wp2
    go_ret
    exact ⟨rfl, hB0⟩
  by_cases hbig1 : 1048576 < (n : Int) + (k : Int) + (m : Int)
  · go_enter Try.func8, Try.ntmps8
    have hB0 : Below w.heap.size w ((w.alloc (.cells #[.int .i64 p, .slice ao n cap] 38)).alloc (.cells #[.slice po k pcap, .slice eo m ecap] 53)) := (((Below.refl _ w).alloc (Nat.le_refl _) _).alloc (by simp) _)
    go_wp2_with fail
    refine (szGraph_in p ao n cap (1048576) (by omega) (by omega) _).mono ?_
    rintro e z0 ⟨rfl, hz0⟩
    replace hB0 := below_next hB0 (Nat.le_refl _) hz0
    have y000 := keep_cell hz0 (Nat.le_refl _) (b := w.heap.size) (o := 0) (by simp [go_sem]; rfl)
    have y001 := keep_cell hz0 (Nat.le_refl _) (b := w.heap.size) (o := 1) (by simp [go_sem]; rfl)
    have y010 := keep_cell hz0 (Nat.le_refl _) (b := w.heap.size + 1) (o := 0) (by simp [go_sem]; rfl)
    have y011 := keep_cell hz0 (Nat.le_refl _) (b := w.heap.size + 1) (o := 1) (by simp [go_sem]; rfl)
    go_wp2_with fail
    refine (szHier_out po k pcap eo m ecap (1048576 - n) (by omega) (by omega) (by omega) (by omega) (by omega) _).mono ?_
    rintro e z1 ⟨rfl, hz1⟩
    replace hB0 := below_next hB0 (Nat.le_refl _) hz1
    go_wp2
    go_ret
    exact ⟨rfl, hB0⟩
  have hn : n ≤ 1048576 := by omega
  have hk : k ≤ 1048576 := by omega
  have hm : m ≤ 1048576 := by omega
  obtain ⟨N, hN⟩ : ∃ N, lenM p n F T G k P m L H = N := ⟨_, rfl⟩
  obtain ⟨⟨CU, CD⟩, hD⟩ : ∃ D, cusT p n F T G P = D := ⟨_, rfl⟩
  have hN24 : N ≤ 1000 := by rw [← hN]; exact lenM_le ..
  have hsp := fun ao' cap' po' pcap' eo' ecap' W h1 h2 h3 => specCustomize_any p ao' n cap' F T G po' k pcap' P eo' m ecap' L H hn hk hm W h1 h2 h3
  have him := fun ao' cap' po' pcap' eo' ecap' W h1 h2 h3 => implCustomize_any p ao' n cap' F T G po' k pcap' P eo' m ecap' L H hn hk hm W h1 h2 h3
  rw [hN, hD] at hsp him
  have HSP : Hid (∀ ao' cap' po' pcap' eo' ecap' W, Row W ao' n F T G → IRow W po' k P → ERow W eo' m L H → Calls Try.prog 35 #[.agg #[.int .i64 p, .slice ao' n cap'], .agg #[.slice po' k pcap', .slice eo' m ecap']] W fun e w' => MAns W w' e N CU CD) := hsp
  have HIM : Hid (∀ ao' cap' po' pcap' eo' ecap' W, Row W ao' n F T G → IRow W po' k P → ERow W eo' m L H → Calls Try.prog 36 #[.agg #[.int .i64 p, .slice ao' n cap'], .agg #[.slice po' k pcap', .slice eo' m ecap']] W fun e w' => MAns W w' e N CU CD) := him
  clear hsp him hN hD
  have hN9 : N ≤ 1048576 := by omega
  go_enter Try.func8, Try.ntmps8
  have hB : Below w.heap.size w ((w.alloc (.cells #[.int .i64 p, .slice ao n cap] 38)).alloc (.cells #[.slice po k pcap, .slice eo m ecap] 53)) := (((Below.refl _ w).alloc (Nat.le_refl _) _).alloc (by simp) _)
  have y00 : ((w.alloc (.cells #[.int .i64 p, .slice ao n cap] 38)).alloc (.cells #[.slice po k pcap, .slice eo m ecap] 53)).cell? ⟨w.heap.size, 0, none⟩ = some (.int .i64 p) := by simp [go_sem]
  have y01 : ((w.alloc (.cells #[.int .i64 p, .slice ao n cap] 38)).alloc (.cells #[.slice po k pcap, .slice eo m ecap] 53)).cell? ⟨w.heap.size, 1, none⟩ = some (.slice ao n cap) := by simp [go_sem]
  have y10 : ((w.alloc (.cells #[.int .i64 p, .slice ao n cap] 38)).alloc (.cells #[.slice po k pcap, .slice eo m ecap] 53)).cell? ⟨w.heap.size + 1, 0, none⟩ = some (.slice po k pcap) := by simp [go_sem]
  have y11 : ((w.alloc (.cells #[.int .i64 p, .slice ao n cap] 38)).alloc (.cells #[.slice po k pcap, .slice eo m ecap] 53)).cell? ⟨w.heap.size + 1, 1, none⟩ = some (.slice eo m ecap) := by simp [go_sem]
  have sz0 : ((w.alloc (.cells #[.int .i64 p, .slice ao n cap] 38)).alloc (.cells #[.slice po k pcap, .slice eo m ecap] 53)).heap.size = w.heap.size + 2 := by simp
  go_wp2_with fail
  refine (szGraph_in p ao n cap (1048576) (by omega) (by omega) _).mono ?_
  rintro e w1 ⟨rfl, hbz⟩
  replace y00 := keep_cell hbz (Nat.le_refl _) y00
  replace y01 := keep_cell hbz (Nat.le_refl _) y01
  replace y10 := keep_cell hbz (Nat.le_refl _) y10
  replace y11 := keep_cell hbz (Nat.le_refl _) y11
  replace hB := below_next hB (Nat.le_refl _) hbz
  have sz1 := hbz.size
  clear hbz
  go_wp2_with fail
  refine (szHier_in po k pcap eo m ecap (1048576 - n) (by omega) (by omega) _).mono ?_
  rintro e w2 ⟨rfl, hbz⟩
  replace y00 := keep_cell hbz (Nat.le_refl _) y00
  replace y01 := keep_cell hbz (Nat.le_refl _) y01
  replace y10 := keep_cell hbz (Nat.le_refl _) y10
  replace y11 := keep_cell hbz (Nat.le_refl _) y11
  replace hB := below_next hB (Nat.le_refl _) hbz
  have sz2 := hbz.size
  clear hbz
  go_wp2_with fail
  have hbd := (Below.refl w2.heap.size w2).drew
  replace y00 := keep_cell hbd (Nat.le_refl _) y00
  replace y01 := keep_cell hbd (Nat.le_refl _) y01
  replace y10 := keep_cell hbd (Nat.le_refl _) y10
  replace y11 := keep_cell hbd (Nat.le_refl _) y11
  replace hB := below_next hB (Nat.le_refl _) hbd
  have sz2 := hbd.size
  clear hbd
  have HBL : Hid (Below w2.drew.heap.size w2.drew w2.drew) := Below.refl _ _
  go_region_held3 (fun w' => w'.cell? ⟨w.heap.size, 0, none⟩ = some (.int .i64 p) ∧ w'.cell? ⟨w.heap.size, 1, none⟩ = some (.slice ao n cap) ∧ w'.cell? ⟨w.heap.size + 1, 0, none⟩ = some (.slice po k pcap) ∧ w'.cell? ⟨w.heap.size + 1, 1, none⟩ = some (.slice eo m ecap) ∧ Hid (Below w2.drew.heap.size w2.drew w'))
    (first | (go_split_ands; exact ⟨keep_cell hbF (Nat.le_refl _) (by assumption), keep_cell hbF (Nat.le_refl _) (by assumption), keep_cell hbF (Nat.le_refl _) (by assumption), keep_cell hbF (Nat.le_refl _) (by assumption), hid_next (by assumption) hbF⟩) | (go_split_ands; exact ⟨keep_cell hbs1 (Nat.le_refl _) (by assumption), keep_cell hbs1 (Nat.le_refl _) (by assumption), keep_cell hbs1 (Nat.le_refl _) (by assumption), keep_cell hbs1 (Nat.le_refl _) (by assumption), hid_next (by assumption) hbs1⟩) | (go_split_ands; exact ⟨keep_cell hbs0 (Nat.le_refl _) (by assumption), keep_cell hbs0 (Nat.le_refl _) (by assumption), keep_cell hbs0 (Nat.le_refl _) (by assumption), keep_cell hbs0 (Nat.le_refl _) (by assumption), hid_next (by assumption) hbs0⟩) | (go_split_ands; exact ⟨keep_cell (alloc_b _ _) (Nat.le_refl _) (by assumption), keep_cell (alloc_b _ _) (Nat.le_refl _) (by assumption), keep_cell (alloc_b _ _) (Nat.le_refl _) (by assumption), keep_cell (alloc_b _ _) (Nat.le_refl _) (by assumption), hid_alloc (by assumption) _⟩) | (go_split_ands; exact ⟨cell_re (by assumption) (by omega), cell_re (by assumption) (by omega), cell_re (by assumption) (by omega), cell_re (by assumption) (by omega), hid_re (by assumption) (by first | omega | (simp only [World.size_drew]; omega))⟩) | (go_split_ands; exact ⟨cell_ret (by assumption) (by omega), cell_ret (by assumption) (by omega), cell_ret (by assumption) (by omega), cell_ret (by assumption) (by omega), hid_ret (by assumption) (by first | omega | (simp only [World.size_drew]; omega))⟩) | (refine ⟨?_, ?_, ?_, ?_, ?_⟩ <;> assumption))
    (first | (go_at_call 24; go_split_ands; refine (toGraph_any p ao n cap F T G hn _ (hr.below (below_next hB (Nat.le_refl _) (Hid.out (by assumption))) (Nat.le_refl _))).mono ?_; rintro e w3 ⟨bs0, rfl, hls0, os0, hbs0⟩; have zs0 := hbs0.size; (try simp only [World.size_alloc, World.size_drew] at zs0); (first | (replace xz := keep_fz hbs0 xb0 xz; replace xb0 := keep_cell hbs0 (Nat.le_refl _) xb0; replace xb1 := keep_cell hbs0 (Nat.le_refl _) xb1) | (have xz := keep_fz hbs0 (nbx0 _) (nbz _); have xb0 := keep_cell hbs0 (Nat.le_refl _) (nbx0 _); have xb1 := keep_cell hbs0 (Nat.le_refl _) (nbx1 _); (try simp only [World.size_alloc, World.size_drew] at xb0 xb1 xz)) | skip)) | (go_at_call 33; go_split_ands; refine (toHier_any po k pcap P eo m ecap L H hk hm _ (hp.below (below_next hB (Nat.le_refl _) (Hid.out (by assumption))) (Nat.le_refl _)) (he.below (below_next hB (Nat.le_refl _) (Hid.out (by assumption))) (Nat.le_refl _))).mono ?_; rintro e w4 ⟨bs1, cs1, rfl, hls1, hms1, os1, os1c, hbs1⟩; have zs1 := hbs1.size; (try simp only [World.size_alloc, World.size_drew] at zs1); (first | (replace xz := keep_fz hbs1 xb0 xz; replace xb0 := keep_cell hbs1 (Nat.le_refl _) xb0; replace xb1 := keep_cell hbs1 (Nat.le_refl _) xb1) | (have xz := keep_fz hbs1 (nbx0 _) (nbz _); have xb0 := keep_cell hbs1 (Nat.le_refl _) (nbx0 _); have xb1 := keep_cell hbs1 (Nat.le_refl _) (nbx1 _); (try simp only [World.size_alloc, World.size_drew] at xb0 xb1 xz)) | skip)) | (go_at_call 35; go_split_ands; refine (HSP.out _ _ _ _ _ _ _ (by repeat (first | exact os0.row | refine Row.alloc ?_ _ | refine Row.below ?_ hbs1 (Nat.le_refl _) | refine Row.below ?_ hbs0 (Nat.le_refl _))) (by repeat (first | exact os1.row | refine IRow.alloc ?_ _ | refine IRow.below ?_ hbs1 (Nat.le_refl _) | refine IRow.below ?_ hbs0 (Nat.le_refl _))) (by repeat (first | exact os1c.row | refine ERow.alloc ?_ _ | refine ERow.below ?_ hbs1 (Nat.le_refl _) | refine ERow.below ?_ hbs0 (Nat.le_refl _)))).mono ?_; rintro e w5 ⟨aoW, capW, eoW, ecapW, rfl, hWx, hWs, hbF⟩; have zF := hbF.size; (try simp only [World.size_alloc, World.size_drew] at zF); (first | (replace xz := keep_fz hbF xb0 xz; replace xb0 := keep_cell hbF (Nat.le_refl _) xb0; replace xb1 := keep_cell hbF (Nat.le_refl _) xb1) | (have xz := keep_fz hbF (nbx0 _) (nbz _); have xb0 := keep_cell hbF (Nat.le_refl _) (nbx0 _); have xb1 := keep_cell hbF (Nat.le_refl _) (nbx1 _); (try simp only [World.size_alloc, World.size_drew] at xb0 xb1 xz)) | skip)))
  all_goals
    go_split_ands
    obtain ⟨bW, cW, eW1, iW, eW2, jW, lW, kW, nW⟩ := pickM hWx (fun _ h => h.lt) (fun _ h => h.lt) hWs
    (try simp only [World.size_alloc, World.size_drew] at lW kW)
    first
    | (have LBX : LB w5 (.slice aoW N capW) (.slice eoW N ecapW) (w4.heap.size) ((w5.setCell ⟨w4.heap.size, 0, none⟩ (.slice aoW N capW)).setCell ⟨w4.heap.size, 1, none⟩ (.slice eoW N ecapW)) := lb_set xb0 xb1; have hbL : Hid (Below w2.drew.heap.size w2.drew ((w5.setCell ⟨w4.heap.size, 0, none⟩ (.slice aoW N capW)).setCell ⟨w4.heap.size, 1, none⟩ (.slice eoW N ecapW))) := (by assumption); have gbL : w2.heap.size ≤ w4.heap.size ∧ bW ≠ w4.heap.size ∧ cW ≠ w4.heap.size := (by omega); generalize ((w5.setCell ⟨w4.heap.size, 0, none⟩ (.slice aoW N capW)).setCell ⟨w4.heap.size, 1, none⟩ (.slice eoW N ecapW)) = wLW at LBX hbL ⊢; generalize w4.heap.size = bLW at LBX gbL ⊢)
    | (have LBX : LB w5 (.slice aoW N capW) (.slice eoW N ecapW) (w3.heap.size) ((w5.setCell ⟨w3.heap.size, 0, none⟩ (.slice aoW N capW)).setCell ⟨w3.heap.size, 1, none⟩ (.slice eoW N ecapW)) := lb_set xb0 xb1; have hbL : Hid (Below w2.drew.heap.size w2.drew ((w5.setCell ⟨w3.heap.size, 0, none⟩ (.slice aoW N capW)).setCell ⟨w3.heap.size, 1, none⟩ (.slice eoW N ecapW))) := (by assumption); have gbL : w2.heap.size ≤ w3.heap.size ∧ bW ≠ w3.heap.size ∧ cW ≠ w3.heap.size := (by omega); generalize ((w5.setCell ⟨w3.heap.size, 0, none⟩ (.slice aoW N capW)).setCell ⟨w3.heap.size, 1, none⟩ (.slice eoW N ecapW)) = wLW at LBX hbL ⊢; generalize w3.heap.size = bLW at LBX gbL ⊢)
    | (have LBX : LB w5 (.slice aoW N capW) (.slice eoW N ecapW) (w2.heap.size) ((w5.setCell ⟨w2.heap.size, 0, none⟩ (.slice aoW N capW)).setCell ⟨w2.heap.size, 1, none⟩ (.slice eoW N ecapW)) := lb_set xb0 xb1; have hbL : Hid (Below w2.drew.heap.size w2.drew ((w5.setCell ⟨w2.heap.size, 0, none⟩ (.slice aoW N capW)).setCell ⟨w2.heap.size, 1, none⟩ (.slice eoW N ecapW))) := (by assumption); have gbL : w2.heap.size ≤ w2.heap.size ∧ bW ≠ w2.heap.size ∧ cW ≠ w2.heap.size := (by omega); generalize ((w5.setCell ⟨w2.heap.size, 0, none⟩ (.slice aoW N capW)).setCell ⟨w2.heap.size, 1, none⟩ (.slice eoW N ecapW)) = wLW at LBX hbL ⊢; generalize w2.heap.size = bLW at LBX gbL ⊢)
    | (have LBX : LB w5 (.slice aoW N capW) (.slice eoW N ecapW) (w5.heap.size) (w5.alloc (.cells #[.slice aoW N capW, .slice eoW N ecapW] 59)) := lb_new w5 (.slice aoW N capW) (.slice eoW N ecapW); have hbL : Hid (Below w2.drew.heap.size w2.drew (w5.alloc (.cells #[.slice aoW N capW, .slice eoW N ecapW] 59))) := (by assumption); have gbL : w2.heap.size ≤ w5.heap.size ∧ bW ≠ w5.heap.size ∧ cW ≠ w5.heap.size := (by omega); generalize (w5.alloc (.cells #[.slice aoW N capW, .slice eoW N ecapW] 59)) = wLW at LBX hbL ⊢; generalize w5.heap.size = bLW at LBX gbL ⊢)
    replace hbL := hbL.out
    replace y00 := keep_cell hbL (Nat.le_refl _) y00
    replace y01 := keep_cell hbL (Nat.le_refl _) y01
    replace y10 := keep_cell hbL (Nat.le_refl _) y10
    replace y11 := keep_cell hbL (Nat.le_refl _) y11
    replace hB := below_next hB (Nat.le_refl _) hbL
    have sz5 := hbL.size
    clear hbL
    replace iW := fun x => (iW x).of_block (LBX.nx _ (iW x).lt gbL.2.1)
    replace jW := fun x => (jW x).of_block (LBX.nx _ (jW x).lt gbL.2.2)
    have zW0 := LBX.c0
    have zW1 := LBX.c1
    have lszW := LBX.sz
    have lltW := LBX.lt
    have lgeW := gbL.1
    clear LBX gbL hWx hWs hls0 hls1 hms1 os0 os1 os1c nW hbF hbs0 hbs1
    go_wp2_with fail
    refine (toGraph_any p ao n cap F T G hn _ (hr.below hB (Nat.le_refl _))).mono ?_
    rintro e w6 ⟨b0, rfl, hl0, o0, hb0⟩
    replace y00 := keep_cell hb0 (Nat.le_refl _) y00
    replace y01 := keep_cell hb0 (Nat.le_refl _) y01
    replace y10 := keep_cell hb0 (Nat.le_refl _) y10
    replace y11 := keep_cell hb0 (Nat.le_refl _) y11
    replace iW := fun x => (iW x).below hb0 (iW x).lt
    replace jW := fun x => (jW x).below hb0 (jW x).lt
    replace zW0 := keep_cell hb0 (Nat.le_refl _) zW0
    replace zW1 := keep_cell hb0 (Nat.le_refl _) zW1
    replace hB := below_next hB (Nat.le_refl _) hb0
    have szw6 := hb0.size
    clear hb0
    replace o0 := Has.of_own o0
    have o0l := o0.lt
    have hal7 := (Below.refl w6.heap.size w6).alloc (Nat.le_refl _) (.cells #[.int .i64 p, .slice (some ⟨b0, 0, none⟩) n n] 45)
    replace y00 := keep_cell hal7 (Nat.le_refl _) y00
    replace y01 := keep_cell hal7 (Nat.le_refl _) y01
    replace y10 := keep_cell hal7 (Nat.le_refl _) y10
    replace y11 := keep_cell hal7 (Nat.le_refl _) y11
    replace iW := fun x => (iW x).below hal7 (iW x).lt
    replace jW := fun x => (jW x).below hal7 (jW x).lt
    replace zW0 := keep_cell hal7 (Nat.le_refl _) zW0
    replace zW1 := keep_cell hal7 (Nat.le_refl _) zW1
    replace o0 := o0.below hal7 o0.lt
    replace hB := below_next hB (Nat.le_refl _) hal7
    have z00 : (w6.alloc (.cells #[.int .i64 p, .slice (some ⟨b0, 0, none⟩) n n] 45)).cell? ⟨w6.heap.size, 0, none⟩ = some (.int .i64 p) := by simp [go_sem]
    have z01 : (w6.alloc (.cells #[.int .i64 p, .slice (some ⟨b0, 0, none⟩) n n] 45)).cell? ⟨w6.heap.size, 1, none⟩ = some (.slice (some ⟨b0, 0, none⟩) n n) := by simp [go_sem]
    have sz7 : (w6.alloc (.cells #[.int .i64 p, .slice (some ⟨b0, 0, none⟩) n n] 45)).heap.size = w6.heap.size + 1 := by simp
    clear hal7
    go_wp2_with fail
    refine (toHier_any po k pcap P eo m ecap L H hk hm _ (hp.below hB (Nat.le_refl _)) (he.below hB (Nat.le_refl _))).mono ?_
    rintro e w8 ⟨b1, c1, rfl, hl1, hm1, o1, o1c, hb1⟩
    replace y00 := keep_cell hb1 (Nat.le_refl _) y00
    replace y01 := keep_cell hb1 (Nat.le_refl _) y01
    replace y10 := keep_cell hb1 (Nat.le_refl _) y10
    replace y11 := keep_cell hb1 (Nat.le_refl _) y11
    replace iW := fun x => (iW x).below hb1 (iW x).lt
    replace jW := fun x => (jW x).below hb1 (jW x).lt
    replace zW0 := keep_cell hb1 (Nat.le_refl _) zW0
    replace zW1 := keep_cell hb1 (Nat.le_refl _) zW1
    replace o0 := o0.below hb1 o0.lt
    replace z00 := keep_cell hb1 (Nat.le_refl _) z00
    replace z01 := keep_cell hb1 (Nat.le_refl _) z01
    replace hB := below_next hB (Nat.le_refl _) hb1
    have szw8 := hb1.size
    clear hb1
    have o1l := o1.lt
    have o1cl := o1c.lt
    have hal9 := (Below.refl w8.heap.size w8).alloc (Nat.le_refl _) (.cells #[.slice (some ⟨b1, 0, none⟩) k k, .slice (some ⟨c1, 0, none⟩) m m] 41)
    replace y00 := keep_cell hal9 (Nat.le_refl _) y00
    replace y01 := keep_cell hal9 (Nat.le_refl _) y01
    replace y10 := keep_cell hal9 (Nat.le_refl _) y10
    replace y11 := keep_cell hal9 (Nat.le_refl _) y11
    replace iW := fun x => (iW x).below hal9 (iW x).lt
    replace jW := fun x => (jW x).below hal9 (jW x).lt
    replace zW0 := keep_cell hal9 (Nat.le_refl _) zW0
    replace zW1 := keep_cell hal9 (Nat.le_refl _) zW1
    replace o0 := o0.below hal9 o0.lt
    replace z00 := keep_cell hal9 (Nat.le_refl _) z00
    replace z01 := keep_cell hal9 (Nat.le_refl _) z01
    replace o1 := o1.below hal9 o1.lt
    replace o1c := o1c.below hal9 o1c.lt
    replace hB := below_next hB (Nat.le_refl _) hal9
    have z10 : (w8.alloc (.cells #[.slice (some ⟨b1, 0, none⟩) k k, .slice (some ⟨c1, 0, none⟩) m m] 41)).cell? ⟨w8.heap.size, 0, none⟩ = some (.slice (some ⟨b1, 0, none⟩) k k) := by simp [go_sem]
    have z11 : (w8.alloc (.cells #[.slice (some ⟨b1, 0, none⟩) k k, .slice (some ⟨c1, 0, none⟩) m m] 41)).cell? ⟨w8.heap.size, 1, none⟩ = some (.slice (some ⟨c1, 0, none⟩) m m) := by simp [go_sem]
    have sz9 : (w8.alloc (.cells #[.slice (some ⟨b1, 0, none⟩) k k, .slice (some ⟨c1, 0, none⟩) m m] 41)).heap.size = w8.heap.size + 1 := by simp
    clear hal9
    go_wp2_with fail
    refine (HIM.out _ _ _ _ _ _ _ o0.row o1.row o1c.row).mono ?_
    rintro e w10 ⟨aoX, capX, eoX, ecapX, rfl, hWx, hWs, hbF⟩
    replace y00 := keep_cell hbF (Nat.le_refl _) y00
    replace y01 := keep_cell hbF (Nat.le_refl _) y01
    replace y10 := keep_cell hbF (Nat.le_refl _) y10
    replace y11 := keep_cell hbF (Nat.le_refl _) y11
    replace iW := fun x => (iW x).below hbF (iW x).lt
    replace jW := fun x => (jW x).below hbF (jW x).lt
    replace zW0 := keep_cell hbF (Nat.le_refl _) zW0
    replace zW1 := keep_cell hbF (Nat.le_refl _) zW1
    replace o0 := o0.below hbF o0.lt
    replace z00 := keep_cell hbF (Nat.le_refl _) z00
    replace z01 := keep_cell hbF (Nat.le_refl _) z01
    replace o1 := o1.below hbF o1.lt
    replace o1c := o1c.below hbF o1c.lt
    replace z10 := keep_cell hbF (Nat.le_refl _) z10
    replace z11 := keep_cell hbF (Nat.le_refl _) z11
    replace hB := below_next hB (Nat.le_refl _) hbF
    have szw10 := hbF.size
    obtain ⟨bX, cX, eX1, iX, eX2, jX, lX, kX, nX⟩ := pickM hWx (fun _ h => h.lt) (fun _ h => h.lt) hWs
    clear hWx hWs hbF
    have hal11 := (Below.refl w10.heap.size w10).alloc (Nat.le_refl _) (.cells #[.slice aoX N capX, .slice eoX N ecapX] 59)
    replace y00 := keep_cell hal11 (Nat.le_refl _) y00
    replace y01 := keep_cell hal11 (Nat.le_refl _) y01
    replace y10 := keep_cell hal11 (Nat.le_refl _) y10
    replace y11 := keep_cell hal11 (Nat.le_refl _) y11
    replace iW := fun x => (iW x).below hal11 (iW x).lt
    replace jW := fun x => (jW x).below hal11 (jW x).lt
    replace zW0 := keep_cell hal11 (Nat.le_refl _) zW0
    replace zW1 := keep_cell hal11 (Nat.le_refl _) zW1
    replace o0 := o0.below hal11 o0.lt
    replace z00 := keep_cell hal11 (Nat.le_refl _) z00
    replace z01 := keep_cell hal11 (Nat.le_refl _) z01
    replace o1 := o1.below hal11 o1.lt
    replace o1c := o1c.below hal11 o1c.lt
    replace z10 := keep_cell hal11 (Nat.le_refl _) z10
    replace z11 := keep_cell hal11 (Nat.le_refl _) z11
    replace iX := fun x => (iX x).below hal11 (iX x).lt
    replace jX := fun x => (jX x).below hal11 (jX x).lt
    replace hB := below_next hB (Nat.le_refl _) hal11
    have zX0 : (w10.alloc (.cells #[.slice aoX N capX, .slice eoX N ecapX] 59)).cell? ⟨w10.heap.size, 0, none⟩ = some (.slice aoX N capX) := by simp [go_sem]
    have zX1 : (w10.alloc (.cells #[.slice aoX N capX, .slice eoX N ecapX] 59)).cell? ⟨w10.heap.size, 1, none⟩ = some (.slice eoX N ecapX) := by simp [go_sem]
    have sz11 : (w10.alloc (.cells #[.slice aoX N capX, .slice eoX N ecapX] 59)).heap.size = w10.heap.size + 1 := by simp
    clear hal11
    go_wp2_with fail
    refine (eqMetric_same _ _ N _ _ CU _ _ N _ _ CD hN9 hN9 _ (irow_at eX1 iX) (irow_at eW1 iW) (irow_at eX2 jX) (irow_at eW2 jW)).mono ?_
    rintro e w12 ⟨rfl, hbq⟩
    replace y00 := keep_cell hbq (Nat.le_refl _) y00
    replace y01 := keep_cell hbq (Nat.le_refl _) y01
    replace y10 := keep_cell hbq (Nat.le_refl _) y10
    replace y11 := keep_cell hbq (Nat.le_refl _) y11
    replace iW := fun x => (iW x).below hbq (iW x).lt
    replace jW := fun x => (jW x).below hbq (jW x).lt
    replace zW0 := keep_cell hbq (Nat.le_refl _) zW0
    replace zW1 := keep_cell hbq (Nat.le_refl _) zW1
    replace o0 := o0.below hbq o0.lt
    replace z00 := keep_cell hbq (Nat.le_refl _) z00
    replace z01 := keep_cell hbq (Nat.le_refl _) z01
    replace o1 := o1.below hbq o1.lt
    replace o1c := o1c.below hbq o1c.lt
    replace z10 := keep_cell hbq (Nat.le_refl _) z10
    replace z11 := keep_cell hbq (Nat.le_refl _) z11
    replace iX := fun x => (iX x).below hbq (iX x).lt
    replace jX := fun x => (jX x).below hbq (jX x).lt
    replace zX0 := keep_cell hbq (Nat.le_refl _) zX0
    replace zX1 := keep_cell hbq (Nat.le_refl _) zX1
    replace hB := below_next hB (Nat.le_refl _) hbq
    have szw12 := hbq.size
    clear hbq
    go_wp2_with fail
    have hbd := (Below.refl w12.heap.size w12).drew
    replace y00 := keep_cell hbd (Nat.le_refl _) y00
    replace y01 := keep_cell hbd (Nat.le_refl _) y01
    replace y10 := keep_cell hbd (Nat.le_refl _) y10
    replace y11 := keep_cell hbd (Nat.le_refl _) y11
    replace iW := fun x => (iW x).below hbd (iW x).lt
    replace jW := fun x => (jW x).below hbd (jW x).lt
    replace zW0 := keep_cell hbd (Nat.le_refl _) zW0
    replace zW1 := keep_cell hbd (Nat.le_refl _) zW1
    replace o0 := o0.below hbd o0.lt
    replace z00 := keep_cell hbd (Nat.le_refl _) z00
    replace z01 := keep_cell hbd (Nat.le_refl _) z01
    replace o1 := o1.below hbd o1.lt
    replace o1c := o1c.below hbd o1c.lt
    replace z10 := keep_cell hbd (Nat.le_refl _) z10
    replace z11 := keep_cell hbd (Nat.le_refl _) z11
    replace iX := fun x => (iX x).below hbd (iX x).lt
    replace jX := fun x => (jX x).below hbd (jX x).lt
    replace zX0 := keep_cell hbd (Nat.le_refl _) zX0
    replace zX1 := keep_cell hbd (Nat.le_refl _) zX1
    replace hB := below_next hB (Nat.le_refl _) hbd
    have sz12 := hbd.size
    clear hbd
    go_region_held3 (fun w' => w'.cell? ⟨w6.heap.size, 0, none⟩ = some (.int .i64 p) ∧ w'.cell? ⟨w6.heap.size, 1, none⟩ = some (.slice (some ⟨b0, 0, none⟩) n n) ∧ w'.cell? ⟨w.heap.size, 0, none⟩ = some (.int .i64 p) ∧ w'.cell? ⟨w.heap.size, 1, none⟩ = some (.slice ao n cap))
      (first | (go_split_ands; refine ⟨?_, ?_, ?_, ?_⟩ <;> exact keep_cell hbq (Nat.le_refl _) (by assumption)) | (go_split_ands; refine ⟨?_, ?_, ?_, ?_⟩ <;> exact keep_cell hby0 (Nat.le_refl _) (by assumption)) | go_keep)
      (first | (go_at_call 24; refine (toGraph_any p ao n cap F T G hn _ (hr.below hB (Nat.le_refl _))).mono ?_; rintro e w13 ⟨by0, rfl, hly0, oy0, hby0⟩) | (go_at_call 27; refine (eqGraph_same p _ _ n n n F T G hn _ (o0.below hby0 o0.lt).row oy0.row).mono ?_; rintro e w14 ⟨rfl, hbq⟩))
    replace y00 := keep_cell hby0 (Nat.le_refl _) y00
    replace y01 := keep_cell hby0 (Nat.le_refl _) y01
    replace y10 := keep_cell hby0 (Nat.le_refl _) y10
    replace y11 := keep_cell hby0 (Nat.le_refl _) y11
    replace iW := fun x => (iW x).below hby0 (iW x).lt
    replace jW := fun x => (jW x).below hby0 (jW x).lt
    replace zW0 := keep_cell hby0 (Nat.le_refl _) zW0
    replace zW1 := keep_cell hby0 (Nat.le_refl _) zW1
    replace o0 := o0.below hby0 o0.lt
    replace z00 := keep_cell hby0 (Nat.le_refl _) z00
    replace z01 := keep_cell hby0 (Nat.le_refl _) z01
    replace o1 := o1.below hby0 o1.lt
    replace o1c := o1c.below hby0 o1c.lt
    replace z10 := keep_cell hby0 (Nat.le_refl _) z10
    replace z11 := keep_cell hby0 (Nat.le_refl _) z11
    replace iX := fun x => (iX x).below hby0 (iX x).lt
    replace jX := fun x => (jX x).below hby0 (jX x).lt
    replace zX0 := keep_cell hby0 (Nat.le_refl _) zX0
    replace zX1 := keep_cell hby0 (Nat.le_refl _) zX1
    replace hB := below_next hB (Nat.le_refl _) hby0
    have szw13 := hby0.size
    replace y00 := keep_cell hbq (Nat.le_refl _) y00
    replace y01 := keep_cell hbq (Nat.le_refl _) y01
    replace y10 := keep_cell hbq (Nat.le_refl _) y10
    replace y11 := keep_cell hbq (Nat.le_refl _) y11
    replace iW := fun x => (iW x).below hbq (iW x).lt
    replace jW := fun x => (jW x).below hbq (jW x).lt
    replace zW0 := keep_cell hbq (Nat.le_refl _) zW0
    replace zW1 := keep_cell hbq (Nat.le_refl _) zW1
    replace o0 := o0.below hbq o0.lt
    replace z00 := keep_cell hbq (Nat.le_refl _) z00
    replace z01 := keep_cell hbq (Nat.le_refl _) z01
    replace o1 := o1.below hbq o1.lt
    replace o1c := o1c.below hbq o1c.lt
    replace z10 := keep_cell hbq (Nat.le_refl _) z10
    replace z11 := keep_cell hbq (Nat.le_refl _) z11
    replace iX := fun x => (iX x).below hbq (iX x).lt
    replace jX := fun x => (jX x).below hbq (jX x).lt
    replace zX0 := keep_cell hbq (Nat.le_refl _) zX0
    replace zX1 := keep_cell hbq (Nat.le_refl _) zX1
    replace hB := below_next hB (Nat.le_refl _) hbq
    have szw14 := hbq.size
    clear hbq hby0 hly0 oy0
    go_wp2_with fail
    have hbd := (Below.refl w14.heap.size w14).drew
    replace y00 := keep_cell hbd (Nat.le_refl _) y00
    replace y01 := keep_cell hbd (Nat.le_refl _) y01
    replace y10 := keep_cell hbd (Nat.le_refl _) y10
    replace y11 := keep_cell hbd (Nat.le_refl _) y11
    replace iW := fun x => (iW x).below hbd (iW x).lt
    replace jW := fun x => (jW x).below hbd (jW x).lt
    replace zW0 := keep_cell hbd (Nat.le_refl _) zW0
    replace zW1 := keep_cell hbd (Nat.le_refl _) zW1
    replace o0 := o0.below hbd o0.lt
    replace z00 := keep_cell hbd (Nat.le_refl _) z00
    replace z01 := keep_cell hbd (Nat.le_refl _) z01
    replace o1 := o1.below hbd o1.lt
    replace o1c := o1c.below hbd o1c.lt
    replace z10 := keep_cell hbd (Nat.le_refl _) z10
    replace z11 := keep_cell hbd (Nat.le_refl _) z11
    replace iX := fun x => (iX x).below hbd (iX x).lt
    replace jX := fun x => (jX x).below hbd (jX x).lt
    replace zX0 := keep_cell hbd (Nat.le_refl _) zX0
    replace zX1 := keep_cell hbd (Nat.le_refl _) zX1
    replace hB := below_next hB (Nat.le_refl _) hbd
    have sz14 := hbd.size
    clear hbd
    go_region_held3 (fun w' => w'.cell? ⟨w8.heap.size, 0, none⟩ = some (.slice (some ⟨b1, 0, none⟩) k k) ∧ w'.cell? ⟨w8.heap.size, 1, none⟩ = some (.slice (some ⟨c1, 0, none⟩) m m) ∧ w'.cell? ⟨w.heap.size + 1, 0, none⟩ = some (.slice po k pcap) ∧ w'.cell? ⟨w.heap.size + 1, 1, none⟩ = some (.slice eo m ecap))
      (first | (go_split_ands; refine ⟨?_, ?_, ?_, ?_⟩ <;> exact keep_cell hbq (Nat.le_refl _) (by assumption)) | (go_split_ands; refine ⟨?_, ?_, ?_, ?_⟩ <;> exact keep_cell hby1 (Nat.le_refl _) (by assumption)) | go_keep)
      (first | (go_at_call 33; refine (toHier_any po k pcap P eo m ecap L H hk hm _ (hp.below hB (Nat.le_refl _)) (he.below hB (Nat.le_refl _))).mono ?_; rintro e w15 ⟨by1, cy1, rfl, hly1, hmy1, oy1, oy1c, hby1⟩) | (go_at_call 26; refine (eqHier_same _ _ k k k P _ _ m m m L H hk hm _ (o1.below hby1 o1.lt).row oy1.row (o1c.below hby1 o1c.lt).row oy1c.row).mono ?_; rintro e w16 ⟨rfl, hbq⟩))
    replace y00 := keep_cell hby1 (Nat.le_refl _) y00
    replace y01 := keep_cell hby1 (Nat.le_refl _) y01
    replace y10 := keep_cell hby1 (Nat.le_refl _) y10
    replace y11 := keep_cell hby1 (Nat.le_refl _) y11
    replace iW := fun x => (iW x).below hby1 (iW x).lt
    replace jW := fun x => (jW x).below hby1 (jW x).lt
    replace zW0 := keep_cell hby1 (Nat.le_refl _) zW0
    replace zW1 := keep_cell hby1 (Nat.le_refl _) zW1
    replace o0 := o0.below hby1 o0.lt
    replace z00 := keep_cell hby1 (Nat.le_refl _) z00
    replace z01 := keep_cell hby1 (Nat.le_refl _) z01
    replace o1 := o1.below hby1 o1.lt
    replace o1c := o1c.below hby1 o1c.lt
    replace z10 := keep_cell hby1 (Nat.le_refl _) z10
    replace z11 := keep_cell hby1 (Nat.le_refl _) z11
    replace iX := fun x => (iX x).below hby1 (iX x).lt
    replace jX := fun x => (jX x).below hby1 (jX x).lt
    replace zX0 := keep_cell hby1 (Nat.le_refl _) zX0
    replace zX1 := keep_cell hby1 (Nat.le_refl _) zX1
    replace hB := below_next hB (Nat.le_refl _) hby1
    have szw15 := hby1.size
    replace y00 := keep_cell hbq (Nat.le_refl _) y00
    replace y01 := keep_cell hbq (Nat.le_refl _) y01
    replace y10 := keep_cell hbq (Nat.le_refl _) y10
    replace y11 := keep_cell hbq (Nat.le_refl _) y11
    replace iW := fun x => (iW x).below hbq (iW x).lt
    replace jW := fun x => (jW x).below hbq (jW x).lt
    replace zW0 := keep_cell hbq (Nat.le_refl _) zW0
    replace zW1 := keep_cell hbq (Nat.le_refl _) zW1
    replace o0 := o0.below hbq o0.lt
    replace z00 := keep_cell hbq (Nat.le_refl _) z00
    replace z01 := keep_cell hbq (Nat.le_refl _) z01
    replace o1 := o1.below hbq o1.lt
    replace o1c := o1c.below hbq o1c.lt
    replace z10 := keep_cell hbq (Nat.le_refl _) z10
    replace z11 := keep_cell hbq (Nat.le_refl _) z11
    replace iX := fun x => (iX x).below hbq (iX x).lt
    replace jX := fun x => (jX x).below hbq (jX x).lt
    replace zX0 := keep_cell hbq (Nat.le_refl _) zX0
    replace zX1 := keep_cell hbq (Nat.le_refl _) zX1
    replace hB := below_next hB (Nat.le_refl _) hbq
    have szw16 := hbq.size
    clear hbq hby1 hly1 hmy1 oy1 oy1c
    go_wp2_with fail
    refine (markGraph_any p b0 n n (ar F T G) 1 (by omega) (by omega) hn _ (fun _ => o0) _ (fun _ => rfl)).mono ?_
    rintro e w17 ⟨rfl, _, hg⟩
    have hT := Turns.of_grown hg
    clear hg
    clear o0 z00 z01
    replace y00 := hT.cell (by simp; omega) y00
    replace y01 := hT.cell (by simp; omega) y01
    replace y10 := hT.cell (by simp; omega) y10
    replace y11 := hT.cell (by simp; omega) y11
    replace iW := fun x => (iW x).of_block (hT.block _ (iW x).lt (by simp; omega))
    replace jW := fun x => (jW x).of_block (hT.block _ (jW x).lt (by simp; omega))
    replace zW0 := hT.cell (by simp; omega) zW0
    replace zW1 := hT.cell (by simp; omega) zW1
    replace o1 := o1.of_block (hT.block _ o1.lt (by simp; omega))
    replace o1c := o1c.of_block (hT.block _ o1c.lt (by simp; omega))
    replace z10 := hT.cell (by simp; omega) z10
    replace z11 := hT.cell (by simp; omega) z11
    replace iX := fun x => (iX x).of_block (hT.block _ (iX x).lt (by simp; omega))
    replace jX := fun x => (jX x).of_block (hT.block _ (jX x).lt (by simp; omega))
    replace zX0 := hT.cell (by simp; omega) zX0
    replace zX1 := hT.cell (by simp; omega) zX1
    replace hB := hB.trans (hT.below (by omega) (by simp; omega))
    have sz17 := hT.size
    clear hT
    go_wp2_with fail
    refine (markHier_any b1 c1 k m k m P (er L H) (1 + 3 * (n : Int)) (by omega) (by omega) hk hm _ (fun _ => o1) (fun _ => o1c) (by omega) _ (fun _ => rfl) _ (fun _ => rfl) o1.lt o1c.lt).mono ?_
    rintro e w18 ⟨rfl, _, _, hg⟩
    have hT := hg
    clear o1 o1c z10 z11
    replace y00 := hT.cell (by simp; omega) y00
    replace y01 := hT.cell (by simp; omega) y01
    replace y10 := hT.cell (by simp; omega) y10
    replace y11 := hT.cell (by simp; omega) y11
    replace iW := fun x => (iW x).of_block (hT.block _ (iW x).lt (by simp; omega))
    replace jW := fun x => (jW x).of_block (hT.block _ (jW x).lt (by simp; omega))
    replace zW0 := hT.cell (by simp; omega) zW0
    replace zW1 := hT.cell (by simp; omega) zW1
    replace iX := fun x => (iX x).of_block (hT.block _ (iX x).lt (by simp; omega))
    replace jX := fun x => (jX x).of_block (hT.block _ (jX x).lt (by simp; omega))
    replace zX0 := hT.cell (by simp; omega) zX0
    replace zX1 := hT.cell (by simp; omega) zX1
    replace hB := hB.trans (hT.below (by omega) (by simp; omega))
    have sz18 := hT.size
    clear hT
    have hkk : ¬ 1 + 3 * (n : Int) + (k : Int) + 2 * (m : Int) < 0 := by omega
    go_wp2_with fail
    refine (eqMetric_same _ _ N _ _ CU _ _ N _ _ CD hN9 hN9 _ (irow_at eX1 iX) (irow_at eW1 iW) (irow_at eX2 jX) (irow_at eW2 jW)).mono ?_
    rintro e w19 ⟨rfl, hbq⟩
    replace y00 := keep_cell hbq (Nat.le_refl _) y00
    replace y01 := keep_cell hbq (Nat.le_refl _) y01
    replace y10 := keep_cell hbq (Nat.le_refl _) y10
    replace y11 := keep_cell hbq (Nat.le_refl _) y11
    replace iW := fun x => (iW x).below hbq (iW x).lt
    replace jW := fun x => (jW x).below hbq (jW x).lt
    replace zW0 := keep_cell hbq (Nat.le_refl _) zW0
    replace zW1 := keep_cell hbq (Nat.le_refl _) zW1
    replace iX := fun x => (iX x).below hbq (iX x).lt
    replace jX := fun x => (jX x).below hbq (jX x).lt
    replace zX0 := keep_cell hbq (Nat.le_refl _) zX0
    replace zX1 := keep_cell hbq (Nat.le_refl _) zX1
    replace hB := below_next hB (Nat.le_refl _) hbq
    have szw19 := hbq.size
    clear hbq
    go_wp2_with fail
    refine (markMetric_any bX cX N N _ _ CU CD 1 (by omega) (by omega) hN9 hN9 _ iX jX nX _ eX1 _ eX2 (by omega) (by omega)).mono ?_
    rintro e w20 ⟨rfl, iY, jY, hT⟩
    clear iX jX
    replace y00 := hT.cell (by simp; omega) y00
    replace y01 := hT.cell (by simp; omega) y01
    replace y10 := hT.cell (by simp; omega) y10
    replace y11 := hT.cell (by simp; omega) y11
    replace iW := fun x => (iW x).of_block (hT.block _ (iW x).lt (by simp; omega))
    replace jW := fun x => (jW x).of_block (hT.block _ (jW x).lt (by simp; omega))
    replace zW0 := hT.cell (by simp; omega) zW0
    replace zW1 := hT.cell (by simp; omega) zW1
    replace zX0 := hT.cell (by simp; omega) zX0
    replace zX1 := hT.cell (by simp; omega) zX1
    replace hB := hB.trans (hT.below (by omega) (by simp; omega))
    have sz20 := hT.size
    clear hT
    go_wp2_with fail
    refine (heldMetric_any bX cX N N _ _ 1 (by omega) (by omega) hN9 hN9 _ iY jY _ eX1 _ eX2).mono ?_
    rintro e w21 ⟨rfl, hbq⟩
    replace y00 := keep_cell hbq (Nat.le_refl _) y00
    replace y01 := keep_cell hbq (Nat.le_refl _) y01
    replace y10 := keep_cell hbq (Nat.le_refl _) y10
    replace y11 := keep_cell hbq (Nat.le_refl _) y11
    replace iW := fun x => (iW x).below hbq (iW x).lt
    replace jW := fun x => (jW x).below hbq (jW x).lt
    replace zW0 := keep_cell hbq (Nat.le_refl _) zW0
    replace zW1 := keep_cell hbq (Nat.le_refl _) zW1
    replace zX0 := keep_cell hbq (Nat.le_refl _) zX0
    replace zX1 := keep_cell hbq (Nat.le_refl _) zX1
    replace iY := fun x => (iY x).below hbq (iY x).lt
    replace jY := fun x => (jY x).below hbq (jY x).lt
    replace hB := below_next hB (Nat.le_refl _) hbq
    have szw21 := hbq.size
    clear hbq
    go_wp2_with fail
    have hbd := (Below.refl w21.heap.size w21).drew
    replace y00 := keep_cell hbd (Nat.le_refl _) y00
    replace y01 := keep_cell hbd (Nat.le_refl _) y01
    replace y10 := keep_cell hbd (Nat.le_refl _) y10
    replace y11 := keep_cell hbd (Nat.le_refl _) y11
    replace iW := fun x => (iW x).below hbd (iW x).lt
    replace jW := fun x => (jW x).below hbd (jW x).lt
    replace zW0 := keep_cell hbd (Nat.le_refl _) zW0
    replace zW1 := keep_cell hbd (Nat.le_refl _) zW1
    replace zX0 := keep_cell hbd (Nat.le_refl _) zX0
    replace zX1 := keep_cell hbd (Nat.le_refl _) zX1
    replace iY := fun x => (iY x).below hbd (iY x).lt
    replace jY := fun x => (jY x).below hbd (jY x).lt
    replace hB := below_next hB (Nat.le_refl _) hbd
    have sz21 := hbd.size
    clear hbd
    have HBL : Hid (Below w21.drew.heap.size w21.drew w21.drew) := Below.refl _ _
    go_region_held3 (fun w' => w'.cell? ⟨w.heap.size, 0, none⟩ = some (.int .i64 p) ∧ w'.cell? ⟨w.heap.size, 1, none⟩ = some (.slice ao n cap) ∧ w'.cell? ⟨w.heap.size + 1, 0, none⟩ = some (.slice po k pcap) ∧ w'.cell? ⟨w.heap.size + 1, 1, none⟩ = some (.slice eo m ecap) ∧ Hid (Below w21.drew.heap.size w21.drew w'))
      (first | (go_split_ands; exact ⟨keep_cell hbF (Nat.le_refl _) (by assumption), keep_cell hbF (Nat.le_refl _) (by assumption), keep_cell hbF (Nat.le_refl _) (by assumption), keep_cell hbF (Nat.le_refl _) (by assumption), hid_next (by assumption) hbF⟩) | (go_split_ands; exact ⟨keep_cell hbt1 (Nat.le_refl _) (by assumption), keep_cell hbt1 (Nat.le_refl _) (by assumption), keep_cell hbt1 (Nat.le_refl _) (by assumption), keep_cell hbt1 (Nat.le_refl _) (by assumption), hid_next (by assumption) hbt1⟩) | (go_split_ands; exact ⟨keep_cell hbt0 (Nat.le_refl _) (by assumption), keep_cell hbt0 (Nat.le_refl _) (by assumption), keep_cell hbt0 (Nat.le_refl _) (by assumption), keep_cell hbt0 (Nat.le_refl _) (by assumption), hid_next (by assumption) hbt0⟩) | (go_split_ands; exact ⟨keep_cell (alloc_b _ _) (Nat.le_refl _) (by assumption), keep_cell (alloc_b _ _) (Nat.le_refl _) (by assumption), keep_cell (alloc_b _ _) (Nat.le_refl _) (by assumption), keep_cell (alloc_b _ _) (Nat.le_refl _) (by assumption), hid_alloc (by assumption) _⟩) | (go_split_ands; exact ⟨cell_re (by assumption) (by omega), cell_re (by assumption) (by omega), cell_re (by assumption) (by omega), cell_re (by assumption) (by omega), hid_re (by assumption) (by first | omega | (simp only [World.size_drew]; omega))⟩) | (go_split_ands; exact ⟨cell_ret (by assumption) (by omega), cell_ret (by assumption) (by omega), cell_ret (by assumption) (by omega), cell_ret (by assumption) (by omega), hid_ret (by assumption) (by first | omega | (simp only [World.size_drew]; omega))⟩) | (refine ⟨?_, ?_, ?_, ?_, ?_⟩ <;> assumption))
      (first | (go_at_call 24; go_split_ands; refine (toGraph_any p ao n cap F T G hn _ (hr.below (below_next hB (Nat.le_refl _) (Hid.out (by assumption))) (Nat.le_refl _))).mono ?_; rintro e w22 ⟨bt0, rfl, hlt0, ot0, hbt0⟩; have zt0 := hbt0.size; (try simp only [World.size_alloc, World.size_drew] at zt0); (first | (replace xz := keep_fz hbt0 xb0 xz; replace xb0 := keep_cell hbt0 (Nat.le_refl _) xb0; replace xb1 := keep_cell hbt0 (Nat.le_refl _) xb1) | (have xz := keep_fz hbt0 (nbx0 _) (nbz _); have xb0 := keep_cell hbt0 (Nat.le_refl _) (nbx0 _); have xb1 := keep_cell hbt0 (Nat.le_refl _) (nbx1 _); (try simp only [World.size_alloc, World.size_drew] at xb0 xb1 xz)) | skip)) | (go_at_call 33; go_split_ands; refine (toHier_any po k pcap P eo m ecap L H hk hm _ (hp.below (below_next hB (Nat.le_refl _) (Hid.out (by assumption))) (Nat.le_refl _)) (he.below (below_next hB (Nat.le_refl _) (Hid.out (by assumption))) (Nat.le_refl _))).mono ?_; rintro e w23 ⟨bt1, ct1, rfl, hlt1, hmt1, ot1, ot1c, hbt1⟩; have zt1 := hbt1.size; (try simp only [World.size_alloc, World.size_drew] at zt1); (first | (replace xz := keep_fz hbt1 xb0 xz; replace xb0 := keep_cell hbt1 (Nat.le_refl _) xb0; replace xb1 := keep_cell hbt1 (Nat.le_refl _) xb1) | (have xz := keep_fz hbt1 (nbx0 _) (nbz _); have xb0 := keep_cell hbt1 (Nat.le_refl _) (nbx0 _); have xb1 := keep_cell hbt1 (Nat.le_refl _) (nbx1 _); (try simp only [World.size_alloc, World.size_drew] at xb0 xb1 xz)) | skip)) | (go_at_call 36; go_split_ands; refine (HIM.out _ _ _ _ _ _ _ (by repeat (first | exact ot0.row | refine Row.alloc ?_ _ | refine Row.below ?_ hbt1 (Nat.le_refl _) | refine Row.below ?_ hbt0 (Nat.le_refl _))) (by repeat (first | exact ot1.row | refine IRow.alloc ?_ _ | refine IRow.below ?_ hbt1 (Nat.le_refl _) | refine IRow.below ?_ hbt0 (Nat.le_refl _))) (by repeat (first | exact ot1c.row | refine ERow.alloc ?_ _ | refine ERow.below ?_ hbt1 (Nat.le_refl _) | refine ERow.below ?_ hbt0 (Nat.le_refl _)))).mono ?_; rintro e w24 ⟨aoZ, capZ, eoZ, ecapZ, rfl, hWx, hWs, hbF⟩; have zF := hbF.size; (try simp only [World.size_alloc, World.size_drew] at zF); (first | (replace xz := keep_fz hbF xb0 xz; replace xb0 := keep_cell hbF (Nat.le_refl _) xb0; replace xb1 := keep_cell hbF (Nat.le_refl _) xb1) | (have xz := keep_fz hbF (nbx0 _) (nbz _); have xb0 := keep_cell hbF (Nat.le_refl _) (nbx0 _); have xb1 := keep_cell hbF (Nat.le_refl _) (nbx1 _); (try simp only [World.size_alloc, World.size_drew] at xb0 xb1 xz)) | skip)))
    all_goals
      go_split_ands
      obtain ⟨bZ, cZ, eZ1, iZ, eZ2, jZ, lZ, kZ, nZ⟩ := pickM hWx (fun _ h => h.lt) (fun _ h => h.lt) hWs
      (try simp only [World.size_alloc, World.size_drew] at lZ kZ)
      first
      | (have LBX : LB w24 (.slice aoZ N capZ) (.slice eoZ N ecapZ) (w23.heap.size) ((w24.setCell ⟨w23.heap.size, 0, none⟩ (.slice aoZ N capZ)).setCell ⟨w23.heap.size, 1, none⟩ (.slice eoZ N ecapZ)) := lb_set xb0 xb1; have hbL : Hid (Below w21.drew.heap.size w21.drew ((w24.setCell ⟨w23.heap.size, 0, none⟩ (.slice aoZ N capZ)).setCell ⟨w23.heap.size, 1, none⟩ (.slice eoZ N ecapZ))) := (by assumption); have gbL : w21.heap.size ≤ w23.heap.size ∧ bZ ≠ w23.heap.size ∧ cZ ≠ w23.heap.size := (by omega); generalize ((w24.setCell ⟨w23.heap.size, 0, none⟩ (.slice aoZ N capZ)).setCell ⟨w23.heap.size, 1, none⟩ (.slice eoZ N ecapZ)) = wLZ at LBX hbL ⊢; generalize w23.heap.size = bLZ at LBX gbL ⊢)
      | (have LBX : LB w24 (.slice aoZ N capZ) (.slice eoZ N ecapZ) (w22.heap.size) ((w24.setCell ⟨w22.heap.size, 0, none⟩ (.slice aoZ N capZ)).setCell ⟨w22.heap.size, 1, none⟩ (.slice eoZ N ecapZ)) := lb_set xb0 xb1; have hbL : Hid (Below w21.drew.heap.size w21.drew ((w24.setCell ⟨w22.heap.size, 0, none⟩ (.slice aoZ N capZ)).setCell ⟨w22.heap.size, 1, none⟩ (.slice eoZ N ecapZ))) := (by assumption); have gbL : w21.heap.size ≤ w22.heap.size ∧ bZ ≠ w22.heap.size ∧ cZ ≠ w22.heap.size := (by omega); generalize ((w24.setCell ⟨w22.heap.size, 0, none⟩ (.slice aoZ N capZ)).setCell ⟨w22.heap.size, 1, none⟩ (.slice eoZ N ecapZ)) = wLZ at LBX hbL ⊢; generalize w22.heap.size = bLZ at LBX gbL ⊢)
      | (have LBX : LB w24 (.slice aoZ N capZ) (.slice eoZ N ecapZ) (w21.heap.size) ((w24.setCell ⟨w21.heap.size, 0, none⟩ (.slice aoZ N capZ)).setCell ⟨w21.heap.size, 1, none⟩ (.slice eoZ N ecapZ)) := lb_set xb0 xb1; have hbL : Hid (Below w21.drew.heap.size w21.drew ((w24.setCell ⟨w21.heap.size, 0, none⟩ (.slice aoZ N capZ)).setCell ⟨w21.heap.size, 1, none⟩ (.slice eoZ N ecapZ))) := (by assumption); have gbL : w21.heap.size ≤ w21.heap.size ∧ bZ ≠ w21.heap.size ∧ cZ ≠ w21.heap.size := (by omega); generalize ((w24.setCell ⟨w21.heap.size, 0, none⟩ (.slice aoZ N capZ)).setCell ⟨w21.heap.size, 1, none⟩ (.slice eoZ N ecapZ)) = wLZ at LBX hbL ⊢; generalize w21.heap.size = bLZ at LBX gbL ⊢)
      | (have LBX : LB w24 (.slice aoZ N capZ) (.slice eoZ N ecapZ) (w24.heap.size) (w24.alloc (.cells #[.slice aoZ N capZ, .slice eoZ N ecapZ] 59)) := lb_new w24 (.slice aoZ N capZ) (.slice eoZ N ecapZ); have hbL : Hid (Below w21.drew.heap.size w21.drew (w24.alloc (.cells #[.slice aoZ N capZ, .slice eoZ N ecapZ] 59))) := (by assumption); have gbL : w21.heap.size ≤ w24.heap.size ∧ bZ ≠ w24.heap.size ∧ cZ ≠ w24.heap.size := (by omega); generalize (w24.alloc (.cells #[.slice aoZ N capZ, .slice eoZ N ecapZ] 59)) = wLZ at LBX hbL ⊢; generalize w24.heap.size = bLZ at LBX gbL ⊢)
      replace hbL := hbL.out
      replace y00 := keep_cell hbL (Nat.le_refl _) y00
      replace y01 := keep_cell hbL (Nat.le_refl _) y01
      replace y10 := keep_cell hbL (Nat.le_refl _) y10
      replace y11 := keep_cell hbL (Nat.le_refl _) y11
      replace iW := fun x => (iW x).below hbL (iW x).lt
      replace jW := fun x => (jW x).below hbL (jW x).lt
      replace zW0 := keep_cell hbL (Nat.le_refl _) zW0
      replace zW1 := keep_cell hbL (Nat.le_refl _) zW1
      replace zX0 := keep_cell hbL (Nat.le_refl _) zX0
      replace zX1 := keep_cell hbL (Nat.le_refl _) zX1
      replace iY := fun x => (iY x).below hbL (iY x).lt
      replace jY := fun x => (jY x).below hbL (jY x).lt
      replace hB := below_next hB (Nat.le_refl _) hbL
      have sz24 := hbL.size
      clear hbL
      replace iZ := fun x => (iZ x).of_block (LBX.nx _ (iZ x).lt gbL.2.1)
      replace jZ := fun x => (jZ x).of_block (LBX.nx _ (jZ x).lt gbL.2.2)
      have zZ0 := LBX.c0
      have zZ1 := LBX.c1
      have lszZ := LBX.sz
      have lltZ := LBX.lt
      have lgeZ := gbL.1
      clear LBX gbL hWx hWs hlt0 hlt1 hmt1 ot0 ot1 ot1c nZ hbF hbt0 hbt1
      go_wp2_with fail
      refine (eqMetric_same _ _ N _ _ CU _ _ N _ _ CD hN9 hN9 _ (irow_at eZ1 iZ) (irow_at eW1 iW) (irow_at eZ2 jZ) (irow_at eW2 jW)).mono ?_
      rintro e w25 ⟨rfl, hbq⟩
      replace y00 := keep_cell hbq (Nat.le_refl _) y00
      replace y01 := keep_cell hbq (Nat.le_refl _) y01
      replace y10 := keep_cell hbq (Nat.le_refl _) y10
      replace y11 := keep_cell hbq (Nat.le_refl _) y11
      replace iW := fun x => (iW x).below hbq (iW x).lt
      replace jW := fun x => (jW x).below hbq (jW x).lt
      replace zW0 := keep_cell hbq (Nat.le_refl _) zW0
      replace zW1 := keep_cell hbq (Nat.le_refl _) zW1
      replace zX0 := keep_cell hbq (Nat.le_refl _) zX0
      replace zX1 := keep_cell hbq (Nat.le_refl _) zX1
      replace iY := fun x => (iY x).below hbq (iY x).lt
      replace jY := fun x => (jY x).below hbq (jY x).lt
      replace iZ := fun x => (iZ x).below hbq (iZ x).lt
      replace jZ := fun x => (jZ x).below hbq (jZ x).lt
      replace zZ0 := keep_cell hbq (Nat.le_refl _) zZ0
      replace zZ1 := keep_cell hbq (Nat.le_refl _) zZ1
      replace hB := below_next hB (Nat.le_refl _) hbq
      have szw25 := hbq.size
      clear hbq
      go_wp2_with fail
      refine (heldMetric_any bX cX N N _ _ 1 (by omega) (by omega) hN9 hN9 _ iY jY _ eX1 _ eX2).mono ?_
      rintro e w26 ⟨rfl, hbq⟩
      replace y00 := keep_cell hbq (Nat.le_refl _) y00
      replace y01 := keep_cell hbq (Nat.le_refl _) y01
      replace y10 := keep_cell hbq (Nat.le_refl _) y10
      replace y11 := keep_cell hbq (Nat.le_refl _) y11
      replace iW := fun x => (iW x).below hbq (iW x).lt
      replace jW := fun x => (jW x).below hbq (jW x).lt
      replace zW0 := keep_cell hbq (Nat.le_refl _) zW0
      replace zW1 := keep_cell hbq (Nat.le_refl _) zW1
      replace zX0 := keep_cell hbq (Nat.le_refl _) zX0
      replace zX1 := keep_cell hbq (Nat.le_refl _) zX1
      replace iY := fun x => (iY x).below hbq (iY x).lt
      replace jY := fun x => (jY x).below hbq (jY x).lt
      replace iZ := fun x => (iZ x).below hbq (iZ x).lt
      replace jZ := fun x => (jZ x).below hbq (jZ x).lt
      replace zZ0 := keep_cell hbq (Nat.le_refl _) zZ0
      replace zZ1 := keep_cell hbq (Nat.le_refl _) zZ1
      replace hB := below_next hB (Nat.le_refl _) hbq
      have szw26 := hbq.size
      clear hbq
      go_wp2
      go_ret
      exact ⟨rfl, hB⟩

set_option maxRecDepth 100000 in
theorem lawCustomize_lifted (os : Os) (started : os.Started) (H : Type) (enc : TypeId × Value → H) :
    ReturnsInHanded {} Try.checked os 8 .any (Rows.fnExactCustomizeSpec.pre6 enc Try.prog Try.f8 Rows.fnExactCustomizeRow.domain false) (Rows.fnExactCustomizeSpec.post enc Try.prog Try.f8 false true false false) := by
  refine returnsInHanded_of_change (C := Try.checked) Try.own started (by kernel_rfl) Try.func8
    (ChangeSpec.witness6 (enc := enc) (C := Try.checked) false ⟨#[], #[.agg #[.int .i64 0, .slice none 0 0], .agg #[.slice none 0 0, .slice none 0 0]], []⟩ 8 (by kernel_rfl) (by kernel_rfl) (by kernel_rfl) (by kernel_rfl)) ?_
  intro W base args ds gs before hval0 hW hcnd _
  have hval : ∀ (j : Nat) t v, Try.f8.params[j]? = some t → args[j]? = some v → Value.okWide Try.prog W .any base t v := hval0
  have hW' := hW
  obtain ⟨p, q, hA0, hV, rfl, hfz, hnd⟩ := hW
  have hA : DataW.TrodAll enc Try.prog W 0 (fun _ => true) true Try.f8.params.toList args.toList ds p := hA0
  rw [Try.params8] at hA hval
  obtain ⟨v0, vs0, d0, ds0, p0, q0, hargs, rfl, rfl, h0, r0⟩ := trodAll_cons hA
  obtain ⟨v1, vs1, d1, ds1, p1, q1, rfl, rfl, rfl, h1, r1⟩ := trodAll_cons r0
  obtain ⟨rfl, rfl, rfl⟩ := trodAll_nil r1
  obtain rfl : args = #[v0, v1] := by cases args; simp_all
  obtain ⟨rfl, rfl⟩ := trodVars_none hV
  have k0 := h0
  have lt0 : ∀ x ∈ p0, x.block < W.heap.size := by obtain ⟨m, hm⟩ := k0; exact DataW.trod_lt m _ _ _ hm
  have k1 := h1
  have lt1 : ∀ x ∈ p1, x.block < W.heap.size := by obtain ⟨m, hm⟩ := k1; exact DataW.trod_lt m _ _ _ hm
  obtain ⟨c00, c01, y00, y01, f0, rfl, _, _, hy00, hy01⟩ := open_agg2 Try.underlying38 (by kernel_rfl) Try.cellsLGraph (hval 0 38 v0 rfl rfl) h0
  obtain ⟨pl0, e00, _, _⟩ := DataW.trod_int Try.underlying2 hy00
  obtain ⟨ao0, n0, cap0, F0, T0, G0, e01, hn0, hr0⟩ := open_arcs hy01
  simp at e00 e01
  subst e00 e01
  obtain ⟨c10, c11, y10, y11, f1, rfl, _, _, hy10, hy11⟩ := open_agg2 Try.underlying53 (by kernel_rfl) Try.cellsLHier (hval 1 53 v1 rfl rfl) h1
  obtain ⟨ao1, n1, cap1, P1, e10, hn1, hr1, wf1⟩ := open_nums hy10
  obtain ⟨eo1, m1, ecap1, L1, H1, e11, hm1, he1, wl1, wh1⟩ := open_edges hy11
  simp at e10 e11
  subst e10 e11
  clear hA0 hval0
  refine (lawCustomize_walk pl0 ao0 n0 cap0 F0 T0 G0 ao1 n1 cap1 P1 eo1 m1 ecap1 L1 H1 hn0 hn1 hm1 W hr0 hr1 he1 ).mono fun e W' ⟨he, bel⟩ => ?_
  subst he
  exact ⟨_, rfl, _, _, _, [], _, [], hW', trodAll_mk1 (shut_bool Try.underlying4 _), (trodAll_cons_mk (Below.trod Try.laidOut (by kernel_rfl) (of_decide_eq_true (by kernel_rfl)) k0 bel lt0) (trodAll_cons_mk (Below.trod Try.laidOut (by kernel_rfl) (of_decide_eq_true (by kernel_rfl)) k1 bel lt1) trodAll_mk0)), rfl, bel.frame _, fun h => by cases h⟩

theorem fnExactCustomize_holds : Rows.FnExactCustomizeSaid :=
  OpenClaim.holds_of_wide 8 Try.f8 rfl rfl rfl rfl rfl rfl rfl ⟨rfl, rfl, rfl, rfl, rfl⟩ rfl rfl rfl rfl rfl (by kernel_rfl) Try.func8 (by kernel_rfl)
    (of_decide_eq_true (by kernel_rfl)) (by unfold Func.isWrapper; first | (rw [if_pos (by decide +kernel)]; kernel_rfl) | (rw [if_neg (by decide +kernel)]; exact ⟨rfl, rfl⟩))
    (fun os started H enc _ => lawCustomize_lifted os started H enc)
#print axioms fnExactCustomize_holds

end Go.Proofs.Ytdgnlpafmkhdjag
