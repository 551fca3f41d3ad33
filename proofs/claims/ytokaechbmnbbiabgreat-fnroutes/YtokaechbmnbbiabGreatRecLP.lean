/-
  The document's question whether a metric is that of a map and a hierarchy.
-/
import Derived.Test.YtokaechbmnbbiabGreatPack15
import Derived.Test.YtokaechbmnbbiabGreatPack9
import Derived.Test.YtokaechbmnbbiabGreatPack10
import Derived.Test.YtokaechbmnbbiabGreatCusSP
set_option linter.unusedVariables false
set_option linter.unusedSimpArgs false
namespace Go.Proofs.YtokaechbmnbbiabGreat
open Go.RowKit Go.Deep Go.Joins
attribute [local go_sem ↓] Go.wp_at_zero Go.wp_at_succ

set_option maxRecDepth 100000 in
set_option maxHeartbeats 4000000 in
theorem l5Is_any (p : Int) (ao : Option Addr) (n cap : Nat) (F T G : Nat → Int) (po : Option Addr) (k pcap : Nat) (P : Nat → Int) (eo : Option Addr) (m ecap : Nat) (L H : Nat → Int) (uo : Option Addr) (u ucap : Nat) (U : Nat → Int) (vo : Option Addr) (v vcap : Nat) (V : Nat → Int) (hn : n ≤ 1048576) (hk : k ≤ 1048576) (hm : m ≤ 1048576) (hu : u ≤ 1048576) (hv : v ≤ 1048576) (w : World) (hr : Row w ao n F T G) (hp : IRow w po k P) (he : ERow w eo m L H) (hU : IRow w uo u U) (hV : IRow w vo v V) :
    Calls Tryz.prog 60 #[.agg #[.int .i64 p, .slice ao n cap], .agg #[.slice po k pcap, .slice eo m ecap], .agg #[.slice uo u ucap, .slice vo v vcap]] w fun e w' => BAns e (HOk p n F T G k P m L H ∧ SameI m u (cusT p n F T G P).1 U ∧ SameI m v (cusT p n F T G P).2 V) ∧ Below w.heap.size w w' := by
  have hB0 : Below w.heap.size w (((w.alloc (.cells #[.int .i64 p, .slice ao n cap] 26)).alloc (.cells #[.slice po k pcap, .slice eo m ecap] 30)).alloc (.cells #[.slice uo u ucap, .slice vo v vcap] 34)).drew := ((((Below.refl _ w).alloc (Nat.le_refl _) _).alloc (by simp) _).alloc (by simp; omega) _).drew
  have q0 : (((w.alloc (.cells #[.int .i64 p, .slice ao n cap] 26)).alloc (.cells #[.slice po k pcap, .slice eo m ecap] 30)).alloc (.cells #[.slice uo u ucap, .slice vo v vcap] 34)).drew.cell? ⟨w.heap.size, 0, none⟩ = some (.int .i64 p) := by simp [go_sem]
  have q1 : (((w.alloc (.cells #[.int .i64 p, .slice ao n cap] 26)).alloc (.cells #[.slice po k pcap, .slice eo m ecap] 30)).alloc (.cells #[.slice uo u ucap, .slice vo v vcap] 34)).drew.cell? ⟨w.heap.size, 1, none⟩ = some (.slice ao n cap) := by simp [go_sem]
  have q2 : (((w.alloc (.cells #[.int .i64 p, .slice ao n cap] 26)).alloc (.cells #[.slice po k pcap, .slice eo m ecap] 30)).alloc (.cells #[.slice uo u ucap, .slice vo v vcap] 34)).drew.cell? ⟨w.heap.size + 1, 0, none⟩ = some (.slice po k pcap) := by simp [go_sem]
  have q3 : (((w.alloc (.cells #[.int .i64 p, .slice ao n cap] 26)).alloc (.cells #[.slice po k pcap, .slice eo m ecap] 30)).alloc (.cells #[.slice uo u ucap, .slice vo v vcap] 34)).drew.cell? ⟨w.heap.size + 1, 1, none⟩ = some (.slice eo m ecap) := by simp [go_sem]
  have q4 : (((w.alloc (.cells #[.int .i64 p, .slice ao n cap] 26)).alloc (.cells #[.slice po k pcap, .slice eo m ecap] 30)).alloc (.cells #[.slice uo u ucap, .slice vo v vcap] 34)).drew.cell? ⟨w.heap.size + 1 + 1, 0, none⟩ = some (.slice uo u ucap) := by simp [go_sem]
  have q5 : (((w.alloc (.cells #[.int .i64 p, .slice ao n cap] 26)).alloc (.cells #[.slice po k pcap, .slice eo m ecap] 30)).alloc (.cells #[.slice uo u ucap, .slice vo v vcap] 34)).drew.cell? ⟨w.heap.size + 1 + 1, 1, none⟩ = some (.slice vo v vcap) := by simp [go_sem]
  by_cases hH : HOk p n F T G k P m L H
  rotate_left
  · have HN : Hid (¬ HOk p n F T G k P m L H) := hH
    clear hH
    go_enter Tryz.func60, Tryz.ntmps60
    go_wp2_with fail
    refine wp_region_held_drew (S := (fun w' => w'.cell? ⟨w.heap.size, 0, none⟩ = some (.int .i64 p) ∧ w'.cell? ⟨w.heap.size, 1, none⟩ = some (.slice ao n cap) ∧ w'.cell? ⟨w.heap.size + 1, 0, none⟩ = some (.slice po k pcap) ∧ w'.cell? ⟨w.heap.size + 1, 1, none⟩ = some (.slice eo m ecap) ∧ w'.cell? ⟨w.heap.size + 1 + 1, 0, none⟩ = some (.slice uo u ucap) ∧ w'.cell? ⟨w.heap.size + 1 + 1, 1, none⟩ = some (.slice vo v vcap))) (by kernel_rfl) ⟨q0, q1, q2, q3, q4, q5⟩ (fun hS => ?_)
    refine takeH 0 (some 7) (.agg #[.int .i64 p, .slice ao n cap]) rfl rfl (by kernel_rfl) (by kernel_rfl) (by kernel_rfl) (fun _ _ _ h => h) (by rfl) hS (fun w hSw => by go_split_ands; go_simp) ?_
    simp only [Act.put, List.setIfInBounds_toArray, List.set_cons_zero, List.set_cons_succ]
    refine takeH 1 (some 8) (.agg #[.slice po k pcap, .slice eo m ecap]) rfl rfl (by kernel_rfl) (by kernel_rfl) (by kernel_rfl) (fun _ _ _ h => h) (by rfl) hS (fun w hSw => by go_split_ands; go_simp) ?_
    simp only [Act.put, List.setIfInBounds_toArray, List.set_cons_zero, List.set_cons_succ]
    refine step1H 2 _ rfl (by kernel_rfl) (by rfl) ?_
    go_simp
    refine (specHierOk_any p ao n cap F T G po k pcap P eo m ecap L H hn hk hm _ (hr.below hB0 (Nat.le_refl _)) (hp.below hB0 (Nat.le_refl _)) (he.below hB0 (Nat.le_refl _))).mono ?_
    rintro e w1 ⟨⟨x, rfl, hx⟩, hb1⟩
    obtain rfl : x = false := by
      cases x
      · rfl
      · exact absurd (hx.1 rfl) HN.out
    clear hx
    have hS1 : (fun w' => w'.cell? ⟨w.heap.size, 0, none⟩ = some (.int .i64 p) ∧ w'.cell? ⟨w.heap.size, 1, none⟩ = some (.slice ao n cap) ∧ w'.cell? ⟨w.heap.size + 1, 0, none⟩ = some (.slice po k pcap) ∧ w'.cell? ⟨w.heap.size + 1, 1, none⟩ = some (.slice eo m ecap) ∧ w'.cell? ⟨w.heap.size + 1 + 1, 0, none⟩ = some (.slice uo u ucap) ∧ w'.cell? ⟨w.heap.size + 1 + 1, 1, none⟩ = some (.slice vo v vcap)) w1 := ⟨keep_cell hb1 (Nat.le_refl _) q0, keep_cell hb1 (Nat.le_refl _) q1, keep_cell hb1 (Nat.le_refl _) q2, keep_cell hb1 (Nat.le_refl _) q3, keep_cell hb1 (Nat.le_refl _) q4, keep_cell hb1 (Nat.le_refl _) q5⟩
    refine ⟨hS1, ?_⟩
    refine takeH 3 (some 10) (.bool false) rfl rfl (by kernel_rfl) (by kernel_rfl) (by kernel_rfl) (fun _ _ _ h => h) (by rfl) hS1 (fun w hSw => by go_split_ands; go_simp) ?_
    simp only [Act.put, List.setIfInBounds_toArray, List.set_cons_zero, List.set_cons_succ]
    refine skipH 4 (some 11) rfl rfl (by kernel_rfl) (by kernel_rfl) (by kernel_rfl) (fun _ _ _ h => h) (by rfl) hS1 ?_
    simp only [Act.put, List.setIfInBounds_toArray, List.set_cons_zero, List.set_cons_succ]
    refine skipH 5 (some 12) rfl rfl (by kernel_rfl) (by kernel_rfl) (by kernel_rfl) (fun _ _ _ h => h) (by rfl) hS1 ?_
    simp only [Act.put, List.setIfInBounds_toArray, List.set_cons_zero, List.set_cons_succ]
    refine skipH 7 (some 14) rfl rfl (by kernel_rfl) (by kernel_rfl) (by kernel_rfl) (fun _ _ _ h => h) (by rfl) hS1 ?_
    simp only [Act.put, List.setIfInBounds_toArray, List.set_cons_zero, List.set_cons_succ]
    refine skip1H 6 (some 13) rfl rfl (by kernel_rfl) (by rfl) hS1 ?_
    simp only [Act.put, List.setIfInBounds_toArray, List.set_cons_zero, List.set_cons_succ]
    refine skip1H 8 (some 15) rfl rfl (by kernel_rfl) (by rfl) hS1 ?_
    simp only [Act.put, List.setIfInBounds_toArray, List.set_cons_zero, List.set_cons_succ]
    refine takeH 9 (some 16) (.bool false) rfl rfl (by kernel_rfl) (by kernel_rfl) (by kernel_rfl) (fun _ _ _ h => h) (by rfl) hS1 (fun w hSw => by go_split_ands; go_simp) ?_
    simp only [Act.put, List.setIfInBounds_toArray, List.set_cons_zero, List.set_cons_succ]
    refine takeH 10 (some 6) (.bool false) rfl rfl (by kernel_rfl) (by kernel_rfl) (by kernel_rfl) (fun _ _ _ h => h) (by rfl) hS1 (fun w hSw => by go_split_ands; go_simp) ?_
    simp only [Act.put, List.setIfInBounds_toArray, List.set_cons_zero, List.set_cons_succ]
    refine wpAnyH_done (by kernel_rfl) ?_ _
    go_wp2
    go_ret
    exact ⟨bans_no (fun y => HN.out y.1), below_next hB0 (Nat.le_refl _) hb1⟩
  obtain ⟨hlen, heq⟩ := hok_len hH
  have HH : Hid (HOk p n F T G k P m L H) := hH
  have hE := cenv_of hH.1
  have hga : arcsB p F T G n = true := (graphB_arcs (ordB_parts hH.1).2.1).2
  rw [← hlen] at hE
  have HC : Hid (cusT p n F T G P = runT (w0U n F T G P (Lf (lstF p n F T P)) (Hf (lstF p n F T P)), w0D n F T G P (Lf (lstF p n F T P)) (Hf (lstF p n F T P))) (allT m (Lf (lstF p n F T P)) (Hf (lstF p n F T P)) m)) := by
    show _ = _
    unfold cusT
    rw [← hlen]
  have HE : Hid (CEnv k n m F T G P (Lf (lstF p n F T P)) (Hf (lstF p n F T P)) ∧ arcsB p F T G n = true) := ⟨hE, hga⟩
  have he2 : ERow w eo m (Lf (lstF p n F T P)) (Hf (lstF p n F T P)) := he.congr (fun i hi => (heq i hi).1) (fun i hi => (heq i hi).2)
  have HB : Hid (∀ Q : Prop, (HOk p n F T G k P m L H ∧ Q) ↔ Q) := fun Q => ⟨fun h => h.2, fun h => ⟨HH.out, h⟩⟩
  clear hH heq hE hga hlen
  obtain ⟨⟨CU, CD⟩, hcu⟩ : ∃ c, cusT p n F T G P = c := ⟨_, rfl⟩
  rw [hcu] at HC ⊢
  clear hcu
  have HCU : Hid (∀ ao' cap' po' pcap' eo' ecap' W, Row W ao' n F T G → IRow W po' k P → ERow W eo' m (Lf (lstF p n F T P)) (Hf (lstF p n F T P)) → Calls Tryz.prog 32 #[.agg #[.int .i64 p, .slice ao' n cap'], .agg #[.slice po' k pcap', .slice eo' m ecap']] W fun e w' => MAns W w' e m CU CD) := fun ao' cap' po' pcap' eo' ecap' W h1 h2 h3 => by
    have := l5Customize_any p ao' n cap' F T G po' k pcap' P eo' m ecap' _ _ hn hm hk HE.out.2 HE.out.1.chd W h1 h2 h3
    rw [← HC.out] at this
    exact this
  clear HC
  go_enter Tryz.func60, Tryz.ntmps60
  go_wp2_with fail
  go_region_held3 (fun w' => w'.cell? ⟨w.heap.size, 0, none⟩ = some (.int .i64 p) ∧ w'.cell? ⟨w.heap.size, 1, none⟩ = some (.slice ao n cap) ∧ w'.cell? ⟨w.heap.size + 1, 0, none⟩ = some (.slice po k pcap) ∧ w'.cell? ⟨w.heap.size + 1, 1, none⟩ = some (.slice eo m ecap) ∧ w'.cell? ⟨w.heap.size + 1 + 1, 0, none⟩ = some (.slice uo u ucap) ∧ w'.cell? ⟨w.heap.size + 1 + 1, 1, none⟩ = some (.slice vo v vcap))
    (first | (go_split_ands; refine ⟨?_, ?_, ?_, ?_, ?_, ?_⟩ <;> exact keep_cell hb3 (Nat.le_refl _) (by assumption)) | (go_split_ands; refine ⟨?_, ?_, ?_, ?_, ?_, ?_⟩ <;> exact keep_cell hb2 (Nat.le_refl _) (by assumption)) | (go_split_ands; refine ⟨?_, ?_, ?_, ?_, ?_, ?_⟩ <;> exact keep_cell hb1 (Nat.le_refl _) (by assumption)) | go_keep)
    (first | (go_at_call 11; refine (specHierOk_any p ao n cap F T G po k pcap P eo m ecap L H hn hk hm _ (hr.below hB0 (Nat.le_refl _)) (hp.below hB0 (Nat.le_refl _)) (he.below hB0 (Nat.le_refl _))).mono ?_; rintro e w1 ⟨⟨x, rfl, hx⟩, hb1⟩; obtain rfl : x = true := hx.2 HH.out; clear hx; have hB1 := below_next hB0 (Nat.le_refl _) hb1) | (go_at_call 32; refine (HCU.out _ _ _ _ _ _ _ (hr.below hB1 (Nat.le_refl _)) (hp.below hB1 (Nat.le_refl _)) (he2.below hB1 (Nat.le_refl _))).mono ?_; rintro e w2 ⟨xo, xc, yo, yc, rfl, hXY, hsz, hb2⟩; have hB2 := below_next hB1 (Nat.le_refl _) hb2) | (go_at_call 110; refine (l5Same_any xo m xc CU yo m yc CD uo u ucap U vo v vcap V hm hm hu hv _ (fun i hi => (by obtain ⟨b, c, e1, e2, _, _, _, i1, i2⟩ := hXY (by omega); subst e1; exact i1.row i hi)) (fun i hi => (by obtain ⟨b, c, e1, e2, _, _, _, i1, i2⟩ := hXY (by omega); subst e2; exact i2.row i hi)) (hU.below hB2 (Nat.le_refl _)) (hV.below hB2 (Nat.le_refl _))).mono ?_; rintro e w3 ⟨⟨x, rfl, hx⟩, hb3⟩))
  go_wp2
  go_ret
  exact ⟨⟨x, rfl, hx.trans (HB.out _).symm⟩, below_next hB2 (Nat.le_refl _) hb3⟩

end Go.Proofs.YtokaechbmnbbiabGreat
