/-
  MetricOk, the program's, at every hierarchy and every metric.
-/
import Derived.Test.YteibbknpcgcjjabGreatPack12
import Derived.Test.YteibbknpcgcjjabGreatPack13
import Derived.Test.YteibbknpcgcjjabGreatMetIP
import Derived.Test.YteibbknpcgcjjabGreatPack10
import Derived.Test.YteibbknpcgcjjabGreatPack8
import Derived.Test.YteibbknpcgcjjabGreatPack7
set_option linter.unusedVariables false
set_option linter.unusedSimpArgs false
namespace Go.Proofs.YteibbknpcgcjjabGreat
open Go.RowKit Go.Shelf Go.Deep Go.Joins
attribute [local go_sem] Oper.semAt_some

set_option maxRecDepth 100000 in
set_option maxHeartbeats 4000000 in
theorem implMetricOk_any (po : Option Addr) (k pcap : Nat) (P : Nat → Int) (eo : Option Addr) (m ecap : Nat) (L H : Nat → Int) (uo : Option Addr) (u ucap : Nat) (U : Nat → Int) (vo : Option Addr) (v vcap : Nat) (V : Nat → Int) (hk : k ≤ 1048576) (hm : m ≤ 1048576) (hmc : m ≤ ecap) (hu : u ≤ 1048576) (hv : v ≤ 1048576) (w : World) (he : ERow w eo m L H) (hU : IRow w uo u U) (hV : IRow w vo v V) :
    Calls Tryz.prog 16 #[.agg #[.slice po k pcap, .slice eo m ecap], .agg #[.slice uo u ucap, .slice vo v vcap]] w fun e w' => BAns e (MOk k m L H u U v V) ∧ Below w.heap.size w w' := by
  refine (callsIn_wide (n := 6)).1 ?_
  refine callsIn_of_wp_marks Tryz.func16 rfl trivial ?_ rfl
  simp only [Tryz.ntmps16, List.size_toArray, List.length_cons, List.length_nil, Nat.reduceAdd, Nat.reduceSub, Array.replicate_succ, Array.replicate_zero, List.push_toArray, List.append_toArray, List.nil_append, List.cons_append]
  gi_wp2
  refine ⟨trivial, ?_⟩
  have hB0 : Below w.heap.size w (((w.alloc (.cells #[.slice po k pcap, .slice eo m ecap] 30)).alloc (.cells #[.slice uo u ucap, .slice vo v vcap] 34)).alloc (.cells #[.bool false] 4)) := (((Below.refl _ w).alloc (Nat.le_refl _) _).alloc (by simp) _).alloc (by simp; omega) _
  have q0 : (((w.alloc (.cells #[.slice po k pcap, .slice eo m ecap] 30)).alloc (.cells #[.slice uo u ucap, .slice vo v vcap] 34)).alloc (.cells #[.bool false] 4)).cell? ⟨w.heap.size, 0, none⟩ = some (.slice po k pcap) := by simp [go_sem]
  have q1 : (((w.alloc (.cells #[.slice po k pcap, .slice eo m ecap] 30)).alloc (.cells #[.slice uo u ucap, .slice vo v vcap] 34)).alloc (.cells #[.bool false] 4)).cell? ⟨w.heap.size, 1, none⟩ = some (.slice eo m ecap) := by simp [go_sem]
  have q2 : (((w.alloc (.cells #[.slice po k pcap, .slice eo m ecap] 30)).alloc (.cells #[.slice uo u ucap, .slice vo v vcap] 34)).alloc (.cells #[.bool false] 4)).cell? ⟨w.heap.size + 1, 0, none⟩ = some (.slice uo u ucap) := by simp [go_sem]
  have q3 : (((w.alloc (.cells #[.slice po k pcap, .slice eo m ecap] 30)).alloc (.cells #[.slice uo u ucap, .slice vo v vcap] 34)).alloc (.cells #[.bool false] 4)).cell? ⟨w.heap.size + 1, 1, none⟩ = some (.slice vo v vcap) := by simp [go_sem]
  have bR : Boxed (((w.alloc (.cells #[.slice po k pcap, .slice eo m ecap] 30)).alloc (.cells #[.slice uo u ucap, .slice vo v vcap] 34)).alloc (.cells #[.bool false] 4)) (w.heap.size + 1 + 1) 4 (.bool false) := by
    have := Boxed.new ((w.alloc (.cells #[.slice po k pcap, .slice eo m ecap] 30)).alloc (.cells #[.slice uo u ucap, .slice vo v vcap] 34)) 4 (.bool false)
    simpa only [World.size_alloc] using this
  have hsz : (((w.alloc (.cells #[.slice po k pcap, .slice eo m ecap] 30)).alloc (.cells #[.slice uo u ucap, .slice vo v vcap] 34)).alloc (.cells #[.bool false] 4)).heap.size = w.heap.size + 3 := by simp
  generalize ((w.alloc (.cells #[.slice po k pcap, .slice eo m ecap] 30)).alloc (.cells #[.slice uo u ucap, .slice vo v vcap] 34)).alloc (.cells #[.bool false] 4) = W0 at hB0 q0 q1 q2 q3 bR hsz ⊢
  refine (callsIn_wide.2 (implChordal_any (k : Int) eo m ecap L H hm hmc _ (he.below hB0 (Nat.le_refl _)))).mono ?_
  rintro e w1 ⟨⟨b, rfl, hb⟩, hb1⟩
  replace q0 := keep_cell hb1 (Nat.le_refl _) q0
  replace q1 := keep_cell hb1 (Nat.le_refl _) q1
  replace q2 := keep_cell hb1 (Nat.le_refl _) q2
  replace q3 := keep_cell hb1 (Nat.le_refl _) q3
  replace bR : Boxed w1 (w.heap.size + 1 + 1) 4 (.bool false) := (hb1.block _ bR.lt).trans bR
  have hB1 := below_next hB0 (Nat.le_refl _) hb1
  have hs1 := hb1.size
  clear hb1 hB0
  have c4 := bR.cell
  have f4 := bR.frozen
  cases b
  · have HN : Hid (¬ MOk k m L H u U v V) := fun x => by have := hb.2 x.1; cases this
    clear hb
    gi_wp2_with fail
    refine ⟨trivial, ?_⟩
    gi_wp2_with fail
    refine ⟨trivial, ?_⟩
    gi_wp2_with fail
    refine ⟨.bool false, by simp [results, Tryz.results16, go_sem, c4], bans_no HN.out, hB1.setCell (by simp; omega) _⟩
  have HC : Hid (Chd (k : Int) m L H) := hb.1 rfl
  clear hb
  gi_wp2_with fail
  refine ⟨trivial, ?_⟩
  refine (callsIn_wide.2 (weightsOk_any uo u ucap U m hu hm _ (hU.below hB1 (Nat.le_refl _)))).mono ?_
  rintro e w2 ⟨⟨b, rfl, hb⟩, hw2⟩
  have hw2' := hw2.symm
  subst hw2'
  clear hw2
  cases b
  · have HN : Hid (¬ MOk k m L H u U v V) := fun x => by have := hb.2 ⟨x.2.1, x.2.2.2.1⟩; cases this
    clear hb
    gi_wp2_with fail
    refine ⟨trivial, ?_⟩
    gi_wp2_with fail
    refine ⟨.bool false, by simp [results, Tryz.results16, go_sem, c4], bans_no HN.out, hB1.setCell (by simp; omega) _⟩
  have HU : Hid (u = m ∧ InF m U) := hb.1 rfl
  clear hb
  gi_wp2_with fail
  refine ⟨trivial, ?_⟩
  refine (callsIn_wide.2 (weightsOk_any vo v vcap V m hv hm _ (hV.below hB1 (Nat.le_refl _)))).mono ?_
  rintro e w2 ⟨⟨b, rfl, hb⟩, hw2⟩
  have hw2' := hw2.symm
  subst hw2'
  clear hw2
  cases b
  · have HN : Hid (¬ MOk k m L H u U v V) := fun x => by have := hb.2 ⟨x.2.2.1, x.2.2.2.2.1⟩; cases this
    clear hb
    gi_wp2_with fail
    refine ⟨.bool false, by simp [results, Tryz.results16, go_sem, c4], bans_no HN.out, hB1.setCell (by simp; omega) _⟩
  have HV : Hid (v = m ∧ InF m V) := hb.1 rfl
  clear hb
  gi_wp2_with fail
  refine ⟨trivial, ?_⟩
  refine (callsIn_wide.2 (triangles_any eo m ecap _)).mono ?_
  rintro e w2 ⟨rfl, rfl⟩
  have hal := (Below.refl w1.heap.size w1).alloc (Nat.le_refl _) (.cells #[.slice eo m ecap] 28)
  have hB2 := below_next hB1 (Nat.le_refl _) hal
  have hR2 : TRd w1.heap.size eo m ecap L H (w1.alloc (.cells #[.slice eo m ecap] 28)) := ⟨by simp [go_sem], he.below hB2 (Nat.le_refl _)⟩
  replace q2 := keep_cell hal (Nat.le_refl _) q2
  replace q3 := keep_cell hal (Nat.le_refl _) q3
  replace bR := bR.alloc (.cells #[.slice eo m ecap] 28)
  have hs2 : (w1.alloc (.cells #[.slice eo m ecap] 28)).heap.size = w1.heap.size + 1 := by simp
  generalize w1.alloc (.cells #[.slice eo m ecap] 28) = W2 at hB2 hR2 q2 q3 bR hs2 ⊢
  clear hal q0 q1 c4 f4 hB1
  obtain ⟨hum, hUF⟩ := HU.out
  obtain ⟨hvm, hVF⟩ := HV.out
  subst hum
  subst hvm
  have HED : Hid (edB (k : Int) L H v = true) := by
    have := HC.out.1
    simp [edgesB] at this
    exact this.2
  have hk24 : (k : Int) ≤ 24 := by
    have := HC.out.1
    simp [edgesB, inB] at this
    omega
  gi_wp2_with fail
  refine range_boxed rfl (by omega) (gf := 105) (lb := #[.pointer (some ⟨w1.heap.size, 0, none⟩)]) rfl trivial (enters_of Tryz.func105 (by kernel_rfl) rfl)
    (tri_stops 5 (by omega) w1.heap.size eo v ecap L H (k : Int) hm hk24 HED.out HC.out.2 W2 hR2) (fun h k => ⟨h.1.trans k.1, fun r => k.2 (h.2 r)⟩) (fun W l o o' hl ho hc hw => ⟨KeepsOwn.putObj ho hc hw, fun h => h.putObj ho hc⟩)
    (fun W o => ⟨⟨by simp, fun k x _ hk _ => (Below.heap_alloc W o k (Array.getElem?_eq_some_iff.1 hk).1).trans hk⟩, fun h => h.grown (World.grownBy_alloc W o none) (fun r e => by cases e)⟩) (Below.refl _ _) (fun _ => rfl)
    (fun pre W => (Below w.heap.size w W ∧ W2.heap.size ≤ W.heap.size) ∧ (W.cell? ⟨w.heap.size + 1, 0, none⟩ = some (.slice uo v ucap) ∧ W.cell? ⟨w.heap.size + 1, 1, none⟩ = some (.slice vo v vcap)) ∧ Boxed W (w.heap.size + 1 + 1) 4 (.bool false) ∧ ∀ x ∈ pre, okT U V x.1)
    (fun c pre W => (Below w.heap.size w W ∧ W2.heap.size ≤ W.heap.size) ∧ (c = .ret ∧ ¬ MOk k v L H v U v V) ∧ Boxed W (w.heap.size + 1 + 1) 4 (.bool false)) ?ownI ?ownX (fun pre W h => h.1.2) ⟨⟨hB2, Nat.le_refl _⟩, ⟨q2, q3⟩, bR, fun x hx => by simp at hx⟩ 5
    (fun x => #[.int .i64 (x.1.1 : Int), .int .i64 (x.1.2.1 : Int), .int .i64 (x.1.2.2 : Int)]) 76 ?assign ?body ?done ?stop
  case ownI =>
    rintro pre A B row ⟨⟨h1, h2⟩, ⟨h3, h4⟩, h5, h6⟩ hg hr
    have hr' := fun r e => (hr r e).2
    exact ⟨⟨h1.trans ⟨hg.os, hg.tape, hg.output, hg.size, fun k hk => hg.block k (by have := h1.size; omega) (fun e => by have := (hr k e.symm).1; omega)⟩, Nat.le_trans h2 hg.size⟩, ⟨cell_kept h3 hg hr', cell_kept h4 hg hr'⟩, h5.kept hg (fun e => by have := (hr _ e.symm).1; omega), h6⟩
  case ownX =>
    rintro c pre A B row ⟨⟨h1, h2⟩, h3, h5⟩ hg hr
    exact ⟨⟨h1.trans ⟨hg.os, hg.tape, hg.output, hg.size, fun k hk => hg.block k (by have := h1.size; omega) (fun e => by have := (hr k e.symm).1; omega)⟩, Nat.le_trans h2 hg.size⟩, h3, h5.kept hg (fun e => by have := (hr _ e.symm).1; omega)⟩
  case assign =>
    intro l x W K hK
    obtain ⟨⟨i, kk, e⟩, hx⟩ := x
    simp only [trv] at hK ⊢
    gi_wp2
    simpa [Exit.then] using hK
  case body =>
    rintro l pre ⟨⟨i, kk, e⟩, hx⟩ bT W ⟨⟨hB, hs⟩, ⟨c2, c3⟩, bR3, hpre⟩ hbT hcs
    have HP : Hid (∀ x ∈ pre, okT U V x.1) := hpre
    clear hpre
    have HX : Hid (TOk v L H (i, kk, e)) := hx
    obtain ⟨hiv, hkv, hev, _⟩ := hx
    simp only at hiv hkv hev hcs
    have t0 : W.cell? ⟨bT, 0, none⟩ = some (.int .i64 (i : Int)) := by simp [World.cell?, hcs]
    have t1 : W.cell? ⟨bT, 1, none⟩ = some (.int .i64 (kk : Int)) := by simp [World.cell?, hcs]
    have t2 : W.cell? ⟨bT, 2, none⟩ = some (.int .i64 (e : Int)) := by simp [World.cell?, hcs]
    have rU : IRow W.drew uo v U := (hU.below hB (Nat.le_refl _)).below (Below.refl W.heap.size W).drew (Nat.le_refl _)
    have rV : IRow W.drew vo v V := (hV.below hB (Nat.le_refl _)).below (Below.refl W.heap.size W).drew (Nat.le_refl _)
    obtain ⟨bu, ou, hao, u0⟩ := rU e hev
    obtain ⟨bv, ov, hao', v0⟩ := rV e hev
    subst hao
    subst hao'
    have he1 : (0 : Int) ≤ (e : Int) := by omega
    have he2 : (e : Int) < (v : Int) := by omega
    have hS0 : (fun X : World => X.cell? ⟨w.heap.size + 1, 0, none⟩ = some (.slice (some ⟨bu, ou, none⟩) v ucap) ∧ X.cell? ⟨w.heap.size + 1, 1, none⟩ = some (.slice (some ⟨bv, ov, none⟩) v vcap) ∧ X.cell? ⟨bT, 0, none⟩ = some (.int .i64 (i : Int)) ∧ X.cell? ⟨bT, 1, none⟩ = some (.int .i64 (kk : Int)) ∧ X.cell? ⟨bT, 2, none⟩ = some (.int .i64 (e : Int)) ∧ X.cell? ⟨bu, ou + e, none⟩ = some (.int .i64 (U e)) ∧ X.cell? ⟨bv, ov + e, none⟩ = some (.int .i64 (V e))) W.drew := ⟨c2, c3, t0, t1, t2, u0, v0⟩
    have hupk : ∀ V' : World, Below W.drew.heap.size W.drew V' → (fun X : World => X.cell? ⟨w.heap.size + 1, 0, none⟩ = some (.slice (some ⟨bu, ou, none⟩) v ucap) ∧ X.cell? ⟨w.heap.size + 1, 1, none⟩ = some (.slice (some ⟨bv, ov, none⟩) v vcap) ∧ X.cell? ⟨bT, 0, none⟩ = some (.int .i64 (i : Int)) ∧ X.cell? ⟨bT, 1, none⟩ = some (.int .i64 (kk : Int)) ∧ X.cell? ⟨bT, 2, none⟩ = some (.int .i64 (e : Int)) ∧ X.cell? ⟨bu, ou + e, none⟩ = some (.int .i64 (U e)) ∧ X.cell? ⟨bv, ov + e, none⟩ = some (.int .i64 (V e))) V' := fun V' hb => ⟨keep_cell hb (Nat.le_refl _) hS0.1, keep_cell hb (Nat.le_refl _) hS0.2.1, keep_cell hb (Nat.le_refl _) hS0.2.2.1, keep_cell hb (Nat.le_refl _) hS0.2.2.2.1, keep_cell hb (Nat.le_refl _) hS0.2.2.2.2.1, keep_cell hb (Nat.le_refl _) hS0.2.2.2.2.2.1, keep_cell hb (Nat.le_refl _) hS0.2.2.2.2.2.2⟩
    by_cases ha : upT U V (i, kk, e) < U e
    · have hda : decide (upT U V (i, kk, e) < U e) = true := by simpa using ha
      gi_wp2_with fail
      refine region_round (fun X : World => X.cell? ⟨w.heap.size + 1, 0, none⟩ = some (.slice (some ⟨bu, ou, none⟩) v ucap) ∧ X.cell? ⟨w.heap.size + 1, 1, none⟩ = some (.slice (some ⟨bv, ov, none⟩) v vcap) ∧ X.cell? ⟨bT, 0, none⟩ = some (.int .i64 (i : Int)) ∧ X.cell? ⟨bT, 1, none⟩ = some (.int .i64 (kk : Int)) ∧ X.cell? ⟨bT, 2, none⟩ = some (.int .i64 (e : Int)) ∧ X.cell? ⟨bu, ou + e, none⟩ = some (.int .i64 (U e)) ∧ X.cell? ⟨bv, ov + e, none⟩ = some (.int .i64 (V e))) (by kernel_rfl) (by kernel_rfl) (fun ⟨_, _, h⟩ => h) ?_
      refine takeH 0 (some 35) (.pointer (some ⟨w.heap.size + 1, 0, none⟩)) rfl rfl (by kernel_rfl) (by kernel_rfl) (by kernel_rfl) (fun _ _ _ h => h) (by rfl) hS0 (fun V hV => by obtain ⟨v1, v2, v3, v4, v5, v6, v7⟩ := hV; go_simp) ?_
      simp only [Act.put, List.setIfInBounds_toArray, List.set_cons_zero, List.set_cons_succ]
      refine takeH 1 (some 36) (.slice (some ⟨bu, ou, none⟩) v ucap) rfl rfl (by kernel_rfl) (by kernel_rfl) (by kernel_rfl) (fun _ _ _ h => h) (by rfl) hS0 (fun V hV => by obtain ⟨v1, v2, v3, v4, v5, v6, v7⟩ := hV; go_simp) ?_
      simp only [Act.put, List.setIfInBounds_toArray, List.set_cons_zero, List.set_cons_succ]
      refine takeH 2 (some 37) (.pointer (some ⟨bT, 2, none⟩)) rfl rfl (by kernel_rfl) (by kernel_rfl) (by kernel_rfl) (fun _ _ _ h => h) (by rfl) hS0 (fun V hV => by obtain ⟨v1, v2, v3, v4, v5, v6, v7⟩ := hV; go_simp) ?_
      simp only [Act.put, List.setIfInBounds_toArray, List.set_cons_zero, List.set_cons_succ]
      refine takeH 3 (some 38) (.int .i64 (e : Int)) rfl rfl (by kernel_rfl) (by kernel_rfl) (by kernel_rfl) (fun _ _ _ h => h) (by rfl) hS0 (fun V hV => by obtain ⟨v1, v2, v3, v4, v5, v6, v7⟩ := hV; go_simp) ?_
      simp only [Act.put, List.setIfInBounds_toArray, List.set_cons_zero, List.set_cons_succ]
      refine takeH 4 (some 39) (.pointer (some ⟨bu, ou + e, none⟩)) rfl rfl (by kernel_rfl) (by kernel_rfl) (by kernel_rfl) (fun _ _ _ h => h) (by rfl) hS0 (fun V hV => by obtain ⟨v1, v2, v3, v4, v5, v6, v7⟩ := hV; go_simp) ?_
      simp only [Act.put, List.setIfInBounds_toArray, List.set_cons_zero, List.set_cons_succ]
      refine takeH 5 (some 40) (.int .i64 (U e)) rfl rfl (by kernel_rfl) (by kernel_rfl) (by kernel_rfl) (fun _ _ _ h => h) (by rfl) hS0 (fun V hV => by obtain ⟨v1, v2, v3, v4, v5, v6, v7⟩ := hV; go_simp) ?_
      simp only [Act.put, List.setIfInBounds_toArray, List.set_cons_zero, List.set_cons_succ]
      refine takeH 6 (some 41) (.agg #[.slice (some ⟨bu, ou, none⟩) v ucap, .slice (some ⟨bv, ov, none⟩) v vcap]) rfl rfl (by kernel_rfl) (by kernel_rfl) (by kernel_rfl) (fun _ _ _ h => h) (by rfl) hS0 (fun V hV => by obtain ⟨v1, v2, v3, v4, v5, v6, v7⟩ := hV; go_simp) ?_
      simp only [Act.put, List.setIfInBounds_toArray, List.set_cons_zero, List.set_cons_succ]
      refine takeH 7 (some 42) (.agg #[.int .i64 (i : Int), .int .i64 (kk : Int), .int .i64 (e : Int)]) rfl rfl (by kernel_rfl) (by kernel_rfl) (by kernel_rfl) (fun _ _ _ h => h) (by rfl) hS0 (fun V hV => by obtain ⟨v1, v2, v3, v4, v5, v6, v7⟩ := hV; go_simp) ?_
      simp only [Act.put, List.setIfInBounds_toArray, List.set_cons_zero, List.set_cons_succ]
      refine step1H 8 _ rfl (by kernel_rfl) (by rfl) ?_
      go_simp
      refine (upBelow_any _ v ucap U _ v vcap V (i, kk, e) hiv hkv hUF hVF hm hm _ rU rV).mono ?_
      rintro e9 w3 ⟨rfl, hb3⟩
      have hS1 := hupk w3 hb3
      have rU3 := rU.below hb3 (Nat.le_refl _)
      have rV3 := rV.below hb3 (Nat.le_refl _)
      refine ⟨hS1, ?_⟩
      refine takeH 9 (some 44) (.bool true) rfl rfl (by kernel_rfl) (by kernel_rfl) (by kernel_rfl) (fun _ _ _ h => h) (by rfl) hS1 (fun V hV => by obtain ⟨v1, v2, v3, v4, v5, v6, v7⟩ := hV; go_simp) ?_
      simp only [Act.put, List.setIfInBounds_toArray, List.set_cons_zero, List.set_cons_succ]
      refine takeH 10 (some 45) (.bool true) rfl rfl (by kernel_rfl) (by kernel_rfl) (by kernel_rfl) (fun _ _ _ h => h) (by rfl) hS1 (fun V hV => by obtain ⟨v1, v2, v3, v4, v5, v6, v7⟩ := hV; go_simp) ?_
      simp only [Act.put, List.setIfInBounds_toArray, List.set_cons_zero, List.set_cons_succ]
      refine skipH 11 (some 46) rfl rfl (by kernel_rfl) (by kernel_rfl) (by kernel_rfl) (fun _ _ _ h => h) (by rfl) hS1 ?_
      simp only [Act.put, List.setIfInBounds_toArray, List.set_cons_zero, List.set_cons_succ]
      refine skipH 12 (some 47) rfl rfl (by kernel_rfl) (by kernel_rfl) (by kernel_rfl) (fun _ _ _ h => h) (by rfl) hS1 ?_
      simp only [Act.put, List.setIfInBounds_toArray, List.set_cons_zero, List.set_cons_succ]
      refine skipH 13 (some 48) rfl rfl (by kernel_rfl) (by kernel_rfl) (by kernel_rfl) (fun _ _ _ h => h) (by rfl) hS1 ?_
      simp only [Act.put, List.setIfInBounds_toArray, List.set_cons_zero, List.set_cons_succ]
      refine skipH 14 (some 49) rfl rfl (by kernel_rfl) (by kernel_rfl) (by kernel_rfl) (fun _ _ _ h => h) (by rfl) hS1 ?_
      simp only [Act.put, List.setIfInBounds_toArray, List.set_cons_zero, List.set_cons_succ]
      refine skipH 15 (some 50) rfl rfl (by kernel_rfl) (by kernel_rfl) (by kernel_rfl) (fun _ _ _ h => h) (by rfl) hS1 ?_
      simp only [Act.put, List.setIfInBounds_toArray, List.set_cons_zero, List.set_cons_succ]
      refine skipH 16 (some 51) rfl rfl (by kernel_rfl) (by kernel_rfl) (by kernel_rfl) (fun _ _ _ h => h) (by rfl) hS1 ?_
      simp only [Act.put, List.setIfInBounds_toArray, List.set_cons_zero, List.set_cons_succ]
      refine skipH 17 (some 52) rfl rfl (by kernel_rfl) (by kernel_rfl) (by kernel_rfl) (fun _ _ _ h => h) (by rfl) hS1 ?_
      simp only [Act.put, List.setIfInBounds_toArray, List.set_cons_zero, List.set_cons_succ]
      refine skipH 18 (some 53) rfl rfl (by kernel_rfl) (by kernel_rfl) (by kernel_rfl) (fun _ _ _ h => h) (by rfl) hS1 ?_
      simp only [Act.put, List.setIfInBounds_toArray, List.set_cons_zero, List.set_cons_succ]
      refine skip1H 19 (some 54) rfl rfl (by kernel_rfl) (by rfl) hS1 ?_
      simp only [Act.put, List.setIfInBounds_toArray, List.set_cons_zero, List.set_cons_succ]
      refine skipH 20 (some 55) rfl rfl (by kernel_rfl) (by kernel_rfl) (by kernel_rfl) (fun _ _ _ h => h) (by rfl) hS1 ?_
      simp only [Act.put, List.setIfInBounds_toArray, List.set_cons_zero, List.set_cons_succ]
      refine takeH 21 (some 56) (.bool true) rfl rfl (by kernel_rfl) (by kernel_rfl) (by kernel_rfl) (fun _ _ _ h => h) (by rfl) hS1 (fun V hV => by obtain ⟨v1, v2, v3, v4, v5, v6, v7⟩ := hV; go_simp) ?_
      simp only [Act.put, List.setIfInBounds_toArray, List.set_cons_zero, List.set_cons_succ]
      refine wpAnyH_done (by kernel_rfl) ?_ _
      have hbW3 : Below W.heap.size W w3 := below_next ((Below.refl W.heap.size W).drew) (Nat.le_refl _) hb3
      have bR4 : Boxed w3 (w.heap.size + 1 + 1) 4 (.bool false) := (hbW3.block _ bR3.lt).trans bR3
      have c4 := bR4.cell
      have f4 := bR4.frozen
      have HN : Hid (¬ MOk k v L H v U v V) := fun x => by
        have := x.2.2.2.2.2 _ (tok_mem HED.out HX.out)
        simp only [okT] at this
        omega
      gi_wp2_with fail
      exact ⟨(keeps_below hbW3).trans ((KeepsOthers.setCell _ _ _).from _), ⟨(below_next hB (Nat.le_refl _) hbW3).setCell (by simp; omega) _, by simp [World.setCell]; have := hbW3.size; omega⟩, ⟨rfl, HN.out⟩, bR4.set _⟩
    have hda : decide (upT U V (i, kk, e) < U e) = false := by simpa using ha
    by_cases hb9 : dnT U V (i, kk, e) < V e
    · have hdb : decide (dnT U V (i, kk, e) < V e) = true := by simpa using hb9
      gi_wp2_with fail
      refine region_round (fun X : World => X.cell? ⟨w.heap.size + 1, 0, none⟩ = some (.slice (some ⟨bu, ou, none⟩) v ucap) ∧ X.cell? ⟨w.heap.size + 1, 1, none⟩ = some (.slice (some ⟨bv, ov, none⟩) v vcap) ∧ X.cell? ⟨bT, 0, none⟩ = some (.int .i64 (i : Int)) ∧ X.cell? ⟨bT, 1, none⟩ = some (.int .i64 (kk : Int)) ∧ X.cell? ⟨bT, 2, none⟩ = some (.int .i64 (e : Int)) ∧ X.cell? ⟨bu, ou + e, none⟩ = some (.int .i64 (U e)) ∧ X.cell? ⟨bv, ov + e, none⟩ = some (.int .i64 (V e))) (by kernel_rfl) (by kernel_rfl) (fun ⟨_, _, h⟩ => h) ?_
      refine takeH 0 (some 35) (.pointer (some ⟨w.heap.size + 1, 0, none⟩)) rfl rfl (by kernel_rfl) (by kernel_rfl) (by kernel_rfl) (fun _ _ _ h => h) (by rfl) hS0 (fun V hV => by obtain ⟨v1, v2, v3, v4, v5, v6, v7⟩ := hV; go_simp) ?_
      simp only [Act.put, List.setIfInBounds_toArray, List.set_cons_zero, List.set_cons_succ]
      refine takeH 1 (some 36) (.slice (some ⟨bu, ou, none⟩) v ucap) rfl rfl (by kernel_rfl) (by kernel_rfl) (by kernel_rfl) (fun _ _ _ h => h) (by rfl) hS0 (fun V hV => by obtain ⟨v1, v2, v3, v4, v5, v6, v7⟩ := hV; go_simp) ?_
      simp only [Act.put, List.setIfInBounds_toArray, List.set_cons_zero, List.set_cons_succ]
      refine takeH 2 (some 37) (.pointer (some ⟨bT, 2, none⟩)) rfl rfl (by kernel_rfl) (by kernel_rfl) (by kernel_rfl) (fun _ _ _ h => h) (by rfl) hS0 (fun V hV => by obtain ⟨v1, v2, v3, v4, v5, v6, v7⟩ := hV; go_simp) ?_
      simp only [Act.put, List.setIfInBounds_toArray, List.set_cons_zero, List.set_cons_succ]
      refine takeH 3 (some 38) (.int .i64 (e : Int)) rfl rfl (by kernel_rfl) (by kernel_rfl) (by kernel_rfl) (fun _ _ _ h => h) (by rfl) hS0 (fun V hV => by obtain ⟨v1, v2, v3, v4, v5, v6, v7⟩ := hV; go_simp) ?_
      simp only [Act.put, List.setIfInBounds_toArray, List.set_cons_zero, List.set_cons_succ]
      refine takeH 4 (some 39) (.pointer (some ⟨bu, ou + e, none⟩)) rfl rfl (by kernel_rfl) (by kernel_rfl) (by kernel_rfl) (fun _ _ _ h => h) (by rfl) hS0 (fun V hV => by obtain ⟨v1, v2, v3, v4, v5, v6, v7⟩ := hV; go_simp) ?_
      simp only [Act.put, List.setIfInBounds_toArray, List.set_cons_zero, List.set_cons_succ]
      refine takeH 5 (some 40) (.int .i64 (U e)) rfl rfl (by kernel_rfl) (by kernel_rfl) (by kernel_rfl) (fun _ _ _ h => h) (by rfl) hS0 (fun V hV => by obtain ⟨v1, v2, v3, v4, v5, v6, v7⟩ := hV; go_simp) ?_
      simp only [Act.put, List.setIfInBounds_toArray, List.set_cons_zero, List.set_cons_succ]
      refine takeH 6 (some 41) (.agg #[.slice (some ⟨bu, ou, none⟩) v ucap, .slice (some ⟨bv, ov, none⟩) v vcap]) rfl rfl (by kernel_rfl) (by kernel_rfl) (by kernel_rfl) (fun _ _ _ h => h) (by rfl) hS0 (fun V hV => by obtain ⟨v1, v2, v3, v4, v5, v6, v7⟩ := hV; go_simp) ?_
      simp only [Act.put, List.setIfInBounds_toArray, List.set_cons_zero, List.set_cons_succ]
      refine takeH 7 (some 42) (.agg #[.int .i64 (i : Int), .int .i64 (kk : Int), .int .i64 (e : Int)]) rfl rfl (by kernel_rfl) (by kernel_rfl) (by kernel_rfl) (fun _ _ _ h => h) (by rfl) hS0 (fun V hV => by obtain ⟨v1, v2, v3, v4, v5, v6, v7⟩ := hV; go_simp) ?_
      simp only [Act.put, List.setIfInBounds_toArray, List.set_cons_zero, List.set_cons_succ]
      refine step1H 8 _ rfl (by kernel_rfl) (by rfl) ?_
      go_simp
      refine (upBelow_any _ v ucap U _ v vcap V (i, kk, e) hiv hkv hUF hVF hm hm _ rU rV).mono ?_
      rintro e9 w3 ⟨rfl, hb3⟩
      have hS1 := hupk w3 hb3
      have rU3 := rU.below hb3 (Nat.le_refl _)
      have rV3 := rV.below hb3 (Nat.le_refl _)
      refine ⟨hS1, ?_⟩
      refine takeH 9 (some 44) (.bool false) rfl rfl (by kernel_rfl) (by kernel_rfl) (by kernel_rfl) (fun _ _ _ h => h) (by rfl) hS1 (fun V hV => by obtain ⟨v1, v2, v3, v4, v5, v6, v7⟩ := hV; go_simp) ?_
      simp only [Act.put, List.setIfInBounds_toArray, List.set_cons_zero, List.set_cons_succ]
      refine takeH 10 (some 45) (.bool false) rfl rfl (by kernel_rfl) (by kernel_rfl) (by kernel_rfl) (fun _ _ _ h => h) (by rfl) hS1 (fun V hV => by obtain ⟨v1, v2, v3, v4, v5, v6, v7⟩ := hV; go_simp) ?_
      simp only [Act.put, List.setIfInBounds_toArray, List.set_cons_zero, List.set_cons_succ]
      refine takeH 11 (some 46) (.pointer (some ⟨w.heap.size + 1, 1, none⟩)) rfl rfl (by kernel_rfl) (by kernel_rfl) (by kernel_rfl) (fun _ _ _ h => h) (by rfl) hS1 (fun V hV => by obtain ⟨v1, v2, v3, v4, v5, v6, v7⟩ := hV; go_simp) ?_
      simp only [Act.put, List.setIfInBounds_toArray, List.set_cons_zero, List.set_cons_succ]
      refine takeH 12 (some 47) (.slice (some ⟨bv, ov, none⟩) v vcap) rfl rfl (by kernel_rfl) (by kernel_rfl) (by kernel_rfl) (fun _ _ _ h => h) (by rfl) hS1 (fun V hV => by obtain ⟨v1, v2, v3, v4, v5, v6, v7⟩ := hV; go_simp) ?_
      simp only [Act.put, List.setIfInBounds_toArray, List.set_cons_zero, List.set_cons_succ]
      refine takeH 13 (some 48) (.pointer (some ⟨bT, 2, none⟩)) rfl rfl (by kernel_rfl) (by kernel_rfl) (by kernel_rfl) (fun _ _ _ h => h) (by rfl) hS1 (fun V hV => by obtain ⟨v1, v2, v3, v4, v5, v6, v7⟩ := hV; go_simp) ?_
      simp only [Act.put, List.setIfInBounds_toArray, List.set_cons_zero, List.set_cons_succ]
      refine takeH 14 (some 49) (.int .i64 (e : Int)) rfl rfl (by kernel_rfl) (by kernel_rfl) (by kernel_rfl) (fun _ _ _ h => h) (by rfl) hS1 (fun V hV => by obtain ⟨v1, v2, v3, v4, v5, v6, v7⟩ := hV; go_simp) ?_
      simp only [Act.put, List.setIfInBounds_toArray, List.set_cons_zero, List.set_cons_succ]
      refine takeH 15 (some 50) (.pointer (some ⟨bv, ov + e, none⟩)) rfl rfl (by kernel_rfl) (by kernel_rfl) (by kernel_rfl) (fun _ _ _ h => h) (by rfl) hS1 (fun V hV => by obtain ⟨v1, v2, v3, v4, v5, v6, v7⟩ := hV; go_simp) ?_
      simp only [Act.put, List.setIfInBounds_toArray, List.set_cons_zero, List.set_cons_succ]
      refine takeH 16 (some 51) (.int .i64 (V e)) rfl rfl (by kernel_rfl) (by kernel_rfl) (by kernel_rfl) (fun _ _ _ h => h) (by rfl) hS1 (fun V hV => by obtain ⟨v1, v2, v3, v4, v5, v6, v7⟩ := hV; go_simp) ?_
      simp only [Act.put, List.setIfInBounds_toArray, List.set_cons_zero, List.set_cons_succ]
      refine takeH 17 (some 52) (.agg #[.slice (some ⟨bu, ou, none⟩) v ucap, .slice (some ⟨bv, ov, none⟩) v vcap]) rfl rfl (by kernel_rfl) (by kernel_rfl) (by kernel_rfl) (fun _ _ _ h => h) (by rfl) hS1 (fun V hV => by obtain ⟨v1, v2, v3, v4, v5, v6, v7⟩ := hV; go_simp) ?_
      simp only [Act.put, List.setIfInBounds_toArray, List.set_cons_zero, List.set_cons_succ]
      refine takeH 18 (some 53) (.agg #[.int .i64 (i : Int), .int .i64 (kk : Int), .int .i64 (e : Int)]) rfl rfl (by kernel_rfl) (by kernel_rfl) (by kernel_rfl) (fun _ _ _ h => h) (by rfl) hS1 (fun V hV => by obtain ⟨v1, v2, v3, v4, v5, v6, v7⟩ := hV; go_simp) ?_
      simp only [Act.put, List.setIfInBounds_toArray, List.set_cons_zero, List.set_cons_succ]
      refine step1H 19 _ rfl (by kernel_rfl) (by rfl) ?_
      go_simp
      refine (downBelow_any _ v ucap U _ v vcap V (i, kk, e) hkv hiv hUF hVF hm hm _ rU3 rV3).mono ?_
      rintro e9 w4 ⟨rfl, hb4⟩
      have hS2 := hupk w4 (below_next hb3 (Nat.le_refl _) hb4)
      refine ⟨hS2, ?_⟩
      refine takeH 20 (some 55) (.bool true) rfl rfl (by kernel_rfl) (by kernel_rfl) (by kernel_rfl) (fun _ _ _ h => h) (by rfl) hS2 (fun V hV => by obtain ⟨v1, v2, v3, v4, v5, v6, v7⟩ := hV; go_simp) ?_
      simp only [Act.put, List.setIfInBounds_toArray, List.set_cons_zero, List.set_cons_succ]
      refine takeH 21 (some 56) (.bool true) rfl rfl (by kernel_rfl) (by kernel_rfl) (by kernel_rfl) (fun _ _ _ h => h) (by rfl) hS2 (fun V hV => by obtain ⟨v1, v2, v3, v4, v5, v6, v7⟩ := hV; go_simp) ?_
      simp only [Act.put, List.setIfInBounds_toArray, List.set_cons_zero, List.set_cons_succ]
      refine wpAnyH_done (by kernel_rfl) ?_ _
      have hbW3 : Below W.heap.size W w4 := below_next ((Below.refl W.heap.size W).drew) (Nat.le_refl _) (below_next hb3 (Nat.le_refl _) hb4)
      have bR4 : Boxed w4 (w.heap.size + 1 + 1) 4 (.bool false) := (hbW3.block _ bR3.lt).trans bR3
      have c4 := bR4.cell
      have f4 := bR4.frozen
      have HN : Hid (¬ MOk k v L H v U v V) := fun x => by
        have := x.2.2.2.2.2 _ (tok_mem HED.out HX.out)
        simp only [okT] at this
        omega
      gi_wp2_with fail
      exact ⟨(keeps_below hbW3).trans ((KeepsOthers.setCell _ _ _).from _), ⟨(below_next hB (Nat.le_refl _) hbW3).setCell (by simp; omega) _, by simp [World.setCell]; have := hbW3.size; omega⟩, ⟨rfl, HN.out⟩, bR4.set _⟩
    have hdb : decide (dnT U V (i, kk, e) < V e) = false := by simpa using hb9
    gi_wp2_with fail
    refine region_round (fun X : World => X.cell? ⟨w.heap.size + 1, 0, none⟩ = some (.slice (some ⟨bu, ou, none⟩) v ucap) ∧ X.cell? ⟨w.heap.size + 1, 1, none⟩ = some (.slice (some ⟨bv, ov, none⟩) v vcap) ∧ X.cell? ⟨bT, 0, none⟩ = some (.int .i64 (i : Int)) ∧ X.cell? ⟨bT, 1, none⟩ = some (.int .i64 (kk : Int)) ∧ X.cell? ⟨bT, 2, none⟩ = some (.int .i64 (e : Int)) ∧ X.cell? ⟨bu, ou + e, none⟩ = some (.int .i64 (U e)) ∧ X.cell? ⟨bv, ov + e, none⟩ = some (.int .i64 (V e))) (by kernel_rfl) (by kernel_rfl) (fun ⟨_, _, h⟩ => h) ?_
    refine takeH 0 (some 35) (.pointer (some ⟨w.heap.size + 1, 0, none⟩)) rfl rfl (by kernel_rfl) (by kernel_rfl) (by kernel_rfl) (fun _ _ _ h => h) (by rfl) hS0 (fun V hV => by obtain ⟨v1, v2, v3, v4, v5, v6, v7⟩ := hV; go_simp) ?_
    simp only [Act.put, List.setIfInBounds_toArray, List.set_cons_zero, List.set_cons_succ]
    refine takeH 1 (some 36) (.slice (some ⟨bu, ou, none⟩) v ucap) rfl rfl (by kernel_rfl) (by kernel_rfl) (by kernel_rfl) (fun _ _ _ h => h) (by rfl) hS0 (fun V hV => by obtain ⟨v1, v2, v3, v4, v5, v6, v7⟩ := hV; go_simp) ?_
    simp only [Act.put, List.setIfInBounds_toArray, List.set_cons_zero, List.set_cons_succ]
    refine takeH 2 (some 37) (.pointer (some ⟨bT, 2, none⟩)) rfl rfl (by kernel_rfl) (by kernel_rfl) (by kernel_rfl) (fun _ _ _ h => h) (by rfl) hS0 (fun V hV => by obtain ⟨v1, v2, v3, v4, v5, v6, v7⟩ := hV; go_simp) ?_
    simp only [Act.put, List.setIfInBounds_toArray, List.set_cons_zero, List.set_cons_succ]
    refine takeH 3 (some 38) (.int .i64 (e : Int)) rfl rfl (by kernel_rfl) (by kernel_rfl) (by kernel_rfl) (fun _ _ _ h => h) (by rfl) hS0 (fun V hV => by obtain ⟨v1, v2, v3, v4, v5, v6, v7⟩ := hV; go_simp) ?_
    simp only [Act.put, List.setIfInBounds_toArray, List.set_cons_zero, List.set_cons_succ]
    refine takeH 4 (some 39) (.pointer (some ⟨bu, ou + e, none⟩)) rfl rfl (by kernel_rfl) (by kernel_rfl) (by kernel_rfl) (fun _ _ _ h => h) (by rfl) hS0 (fun V hV => by obtain ⟨v1, v2, v3, v4, v5, v6, v7⟩ := hV; go_simp) ?_
    simp only [Act.put, List.setIfInBounds_toArray, List.set_cons_zero, List.set_cons_succ]
    refine takeH 5 (some 40) (.int .i64 (U e)) rfl rfl (by kernel_rfl) (by kernel_rfl) (by kernel_rfl) (fun _ _ _ h => h) (by rfl) hS0 (fun V hV => by obtain ⟨v1, v2, v3, v4, v5, v6, v7⟩ := hV; go_simp) ?_
    simp only [Act.put, List.setIfInBounds_toArray, List.set_cons_zero, List.set_cons_succ]
    refine takeH 6 (some 41) (.agg #[.slice (some ⟨bu, ou, none⟩) v ucap, .slice (some ⟨bv, ov, none⟩) v vcap]) rfl rfl (by kernel_rfl) (by kernel_rfl) (by kernel_rfl) (fun _ _ _ h => h) (by rfl) hS0 (fun V hV => by obtain ⟨v1, v2, v3, v4, v5, v6, v7⟩ := hV; go_simp) ?_
    simp only [Act.put, List.setIfInBounds_toArray, List.set_cons_zero, List.set_cons_succ]
    refine takeH 7 (some 42) (.agg #[.int .i64 (i : Int), .int .i64 (kk : Int), .int .i64 (e : Int)]) rfl rfl (by kernel_rfl) (by kernel_rfl) (by kernel_rfl) (fun _ _ _ h => h) (by rfl) hS0 (fun V hV => by obtain ⟨v1, v2, v3, v4, v5, v6, v7⟩ := hV; go_simp) ?_
    simp only [Act.put, List.setIfInBounds_toArray, List.set_cons_zero, List.set_cons_succ]
    refine step1H 8 _ rfl (by kernel_rfl) (by rfl) ?_
    go_simp
    refine (upBelow_any _ v ucap U _ v vcap V (i, kk, e) hiv hkv hUF hVF hm hm _ rU rV).mono ?_
    rintro e9 w3 ⟨rfl, hb3⟩
    have hS1 := hupk w3 hb3
    have rU3 := rU.below hb3 (Nat.le_refl _)
    have rV3 := rV.below hb3 (Nat.le_refl _)
    refine ⟨hS1, ?_⟩
    refine takeH 9 (some 44) (.bool false) rfl rfl (by kernel_rfl) (by kernel_rfl) (by kernel_rfl) (fun _ _ _ h => h) (by rfl) hS1 (fun V hV => by obtain ⟨v1, v2, v3, v4, v5, v6, v7⟩ := hV; go_simp) ?_
    simp only [Act.put, List.setIfInBounds_toArray, List.set_cons_zero, List.set_cons_succ]
    refine takeH 10 (some 45) (.bool false) rfl rfl (by kernel_rfl) (by kernel_rfl) (by kernel_rfl) (fun _ _ _ h => h) (by rfl) hS1 (fun V hV => by obtain ⟨v1, v2, v3, v4, v5, v6, v7⟩ := hV; go_simp) ?_
    simp only [Act.put, List.setIfInBounds_toArray, List.set_cons_zero, List.set_cons_succ]
    refine takeH 11 (some 46) (.pointer (some ⟨w.heap.size + 1, 1, none⟩)) rfl rfl (by kernel_rfl) (by kernel_rfl) (by kernel_rfl) (fun _ _ _ h => h) (by rfl) hS1 (fun V hV => by obtain ⟨v1, v2, v3, v4, v5, v6, v7⟩ := hV; go_simp) ?_
    simp only [Act.put, List.setIfInBounds_toArray, List.set_cons_zero, List.set_cons_succ]
    refine takeH 12 (some 47) (.slice (some ⟨bv, ov, none⟩) v vcap) rfl rfl (by kernel_rfl) (by kernel_rfl) (by kernel_rfl) (fun _ _ _ h => h) (by rfl) hS1 (fun V hV => by obtain ⟨v1, v2, v3, v4, v5, v6, v7⟩ := hV; go_simp) ?_
    simp only [Act.put, List.setIfInBounds_toArray, List.set_cons_zero, List.set_cons_succ]
    refine takeH 13 (some 48) (.pointer (some ⟨bT, 2, none⟩)) rfl rfl (by kernel_rfl) (by kernel_rfl) (by kernel_rfl) (fun _ _ _ h => h) (by rfl) hS1 (fun V hV => by obtain ⟨v1, v2, v3, v4, v5, v6, v7⟩ := hV; go_simp) ?_
    simp only [Act.put, List.setIfInBounds_toArray, List.set_cons_zero, List.set_cons_succ]
    refine takeH 14 (some 49) (.int .i64 (e : Int)) rfl rfl (by kernel_rfl) (by kernel_rfl) (by kernel_rfl) (fun _ _ _ h => h) (by rfl) hS1 (fun V hV => by obtain ⟨v1, v2, v3, v4, v5, v6, v7⟩ := hV; go_simp) ?_
    simp only [Act.put, List.setIfInBounds_toArray, List.set_cons_zero, List.set_cons_succ]
    refine takeH 15 (some 50) (.pointer (some ⟨bv, ov + e, none⟩)) rfl rfl (by kernel_rfl) (by kernel_rfl) (by kernel_rfl) (fun _ _ _ h => h) (by rfl) hS1 (fun V hV => by obtain ⟨v1, v2, v3, v4, v5, v6, v7⟩ := hV; go_simp) ?_
    simp only [Act.put, List.setIfInBounds_toArray, List.set_cons_zero, List.set_cons_succ]
    refine takeH 16 (some 51) (.int .i64 (V e)) rfl rfl (by kernel_rfl) (by kernel_rfl) (by kernel_rfl) (fun _ _ _ h => h) (by rfl) hS1 (fun V hV => by obtain ⟨v1, v2, v3, v4, v5, v6, v7⟩ := hV; go_simp) ?_
    simp only [Act.put, List.setIfInBounds_toArray, List.set_cons_zero, List.set_cons_succ]
    refine takeH 17 (some 52) (.agg #[.slice (some ⟨bu, ou, none⟩) v ucap, .slice (some ⟨bv, ov, none⟩) v vcap]) rfl rfl (by kernel_rfl) (by kernel_rfl) (by kernel_rfl) (fun _ _ _ h => h) (by rfl) hS1 (fun V hV => by obtain ⟨v1, v2, v3, v4, v5, v6, v7⟩ := hV; go_simp) ?_
    simp only [Act.put, List.setIfInBounds_toArray, List.set_cons_zero, List.set_cons_succ]
    refine takeH 18 (some 53) (.agg #[.int .i64 (i : Int), .int .i64 (kk : Int), .int .i64 (e : Int)]) rfl rfl (by kernel_rfl) (by kernel_rfl) (by kernel_rfl) (fun _ _ _ h => h) (by rfl) hS1 (fun V hV => by obtain ⟨v1, v2, v3, v4, v5, v6, v7⟩ := hV; go_simp) ?_
    simp only [Act.put, List.setIfInBounds_toArray, List.set_cons_zero, List.set_cons_succ]
    refine step1H 19 _ rfl (by kernel_rfl) (by rfl) ?_
    go_simp
    refine (downBelow_any _ v ucap U _ v vcap V (i, kk, e) hkv hiv hUF hVF hm hm _ rU3 rV3).mono ?_
    rintro e9 w4 ⟨rfl, hb4⟩
    have hS2 := hupk w4 (below_next hb3 (Nat.le_refl _) hb4)
    refine ⟨hS2, ?_⟩
    refine takeH 20 (some 55) (.bool false) rfl rfl (by kernel_rfl) (by kernel_rfl) (by kernel_rfl) (fun _ _ _ h => h) (by rfl) hS2 (fun V hV => by obtain ⟨v1, v2, v3, v4, v5, v6, v7⟩ := hV; go_simp) ?_
    simp only [Act.put, List.setIfInBounds_toArray, List.set_cons_zero, List.set_cons_succ]
    refine takeH 21 (some 56) (.bool false) rfl rfl (by kernel_rfl) (by kernel_rfl) (by kernel_rfl) (fun _ _ _ h => h) (by rfl) hS2 (fun V hV => by obtain ⟨v1, v2, v3, v4, v5, v6, v7⟩ := hV; go_simp) ?_
    simp only [Act.put, List.setIfInBounds_toArray, List.set_cons_zero, List.set_cons_succ]
    refine wpAnyH_done (by kernel_rfl) ?_ _
    have hbW3 : Below W.heap.size W w4 := below_next ((Below.refl W.heap.size W).drew) (Nat.le_refl _) (below_next hb3 (Nat.le_refl _) hb4)
    have bR4 : Boxed w4 (w.heap.size + 1 + 1) 4 (.bool false) := (hbW3.block _ bR3.lt).trans bR3
    have HO : Hid (okT U V (i, kk, e)) := ⟨by simp only; omega, by simp only; omega⟩
    gi_wp2_with fail
    refine ⟨keeps_below hbW3, ⟨⟨hbW3.size, fun k o _ hk _ => (hbW3.block k (Array.getElem?_eq_some_iff.1 hk).1).trans hk⟩, fun h => h.grown (below_grownN (row := none) hbW3) (fun r e => by cases e)⟩, ⟨below_next hB (Nat.le_refl _) hbW3, by have := hbW3.size; omega⟩, ⟨keep_cell hbW3 (Nat.le_refl _) c2, keep_cell hbW3 (Nat.le_refl _) c3⟩, bR4, fun x hx => ?_⟩
    rcases List.mem_append.1 hx with hx | hx
    · exact HP.out x hx
    · rw [List.mem_singleton.1 hx]; exact HO.out
  case done =>
    rintro D ys W hD hys ⟨⟨hB, hs⟩, _, bR3, hpre⟩ hK
    have HY : Hid (MOk k v L H v U v V) := ⟨HC.out, rfl, rfl, hUF, hVF, fun t ht => by
      rw [← hys] at ht
      obtain ⟨x, hx, rfl⟩ := List.mem_map.1 ht
      exact hpre x hx⟩
    clear hpre
    have c4 := bR3.cell
    have f4 := bR3.frozen
    have bR4 := bR3.set (.bool true)
    have hB4 := hB.setCell (p := ⟨w.heap.size + 1 + 1, 0, none⟩) (by simp; omega) (.bool true)
    have hK4 : (W.setCell ⟨w.heap.size + 1 + 1, 0, none⟩ (.bool true)).heap[D]? = some (.deferred (some [])) := (Below.heap_setCell _ _ _ _ (by simp; omega)).trans hK
    gi_wp2_with fail
    refine ⟨by simp, .inl ⟨_, _, rfl, run_takeDeferred hK4, ?_⟩⟩
    have c5 : ((W.setCell ⟨w.heap.size + 1 + 1, 0, none⟩ (.bool true)).putObj D (.deferred none)).cell? ⟨w.heap.size + 1 + 1, 0, none⟩ = some (.bool true) := by
      rw [World.cell?_of_block (World.putObj_heap_other (by simp; omega))]
      exact bR4.cell
    exact ⟨.bool true, by simp [results, Tryz.results16, go_sem, c5], bans_yes HY.out, hB4.trans (belowK_b (w := w) (Nat.le_refl _) _ D _ _ (by omega) hK4 rfl rfl)⟩
  case stop =>
    rintro D c pre W hD _ ⟨⟨hB, hs⟩, ⟨rfl, hno⟩, bR3⟩ hK
    have HN : Hid (¬ MOk k v L H v U v V) := hno
    clear hno
    have c4 := bR3.cell
    gi_wp2_with fail
    refine ⟨by simp, .inl ⟨_, _, rfl, run_takeDeferred hK, ?_⟩⟩
    have c5 : (W.putObj D (.deferred none)).cell? ⟨w.heap.size + 1 + 1, 0, none⟩ = some (.bool false) := by
      rw [World.cell?_of_block (World.putObj_heap_other (by simp; omega))]
      exact c4
    exact ⟨.bool false, by simp [results, Tryz.results16, go_sem, c5], bans_no HN.out, hB.trans (belowK_b (w := w) (Nat.le_refl _) _ D _ _ (by omega) hK rfl rfl)⟩

end Go.Proofs.YteibbknpcgcjjabGreat
