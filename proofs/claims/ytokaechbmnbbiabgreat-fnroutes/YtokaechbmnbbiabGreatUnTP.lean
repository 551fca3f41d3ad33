/-
  The document's l7Unpack: the way of an edge by halves.
-/
import Derived.Test.YtokaechbmnbbiabGreatPack10
import Derived.Test.YtokaechbmnbbiabGreatPack11
set_option linter.unusedVariables false
set_option linter.unusedSimpArgs false
namespace Go.Proofs.YtokaechbmnbbiabGreat
open Go.RowKit
attribute [local go_sem ↓] Go.wp_at_zero Go.wp_at_succ

theorem U3.far {w W W' : World} {p : Int} {ao : Option Addr} {n cap : Nat} {po : Option Addr} {k pcap : Nat} {eo : Option Addr} {m ecap : Nat} {uo : Option Addr} {ucap : Nat} {vo : Option Addr} {vcap : Nat} (h : U3 w W p ao n cap po k pcap eo m ecap uo ucap vo vcap) (hb : Below (w.heap.size + 3) W W') : U3 w W' p ao n cap po k pcap eo m ecap uo ucap vo vcap :=
  ⟨h.bel.trans (hb.mono (by omega)), by rw [hb.cell (by simp)]; exact h.g0, by rw [hb.cell (by simp)]; exact h.g1, by rw [hb.cell (by simp)]; exact h.h0, by rw [hb.cell (by simp)]; exact h.h1, by rw [hb.cell (by simp)]; exact h.m0, by rw [hb.cell (by simp)]; exact h.m1, Nat.le_trans h.sz hb.size⟩
set_option maxRecDepth 100000 in
set_option maxHeartbeats 4000000 in
theorem l7Unpack_any (p : Int) (ao : Option Addr) (n cap : Nat) (F T G : Nat → Int) (po : Option Addr) (k pcap : Nat) (P : Nat → Int) (eo : Option Addr) (m ecap : Nat) (L H : Nat → Int) (uo : Option Addr) (ucap : Nat) (U : Nat → Int) (vo : Option Addr) (vcap : Nat) (V : Nat → Int) (hn : n ≤ 1048576) (hk : k ≤ 1048576) (hm : m ≤ 1048576) (q : Int) (hE : edB q L H m = true) (hA : arcsB p F T G n = true) (hU : ∀ j, j < m → 0 ≤ U j ∧ U j ≤ 1000000000000) (hV : ∀ j, j < m → 0 ≤ V j ∧ V j ≤ 1000000000000) :
    ∀ (lo hi : Nat) (up : Bool) (w : World), NRows w ao n F T G po k P eo m L H uo U vo V → hsB m L H lo hi = true → lo < hi → hi < k → lo ≤ 29 →
      Calls Tryz.prog 77 #[.agg #[.int .i64 p, .slice ao n cap], .agg #[.slice po k pcap, .slice eo m ecap], .agg #[.slice uo m ucap, .slice vo m vcap], .int .i64 lo, .int .i64 hi, .bool up] w fun e w' =>
        ∃ g c, e = .returned (.slice (some ⟨g, 0, none⟩) (((netOf n F T G P m L H U V).wy lo hi up).length + 1) c) ∧ LOwn w' w.heap.size (some ⟨g, 0, none⟩) c (P (frR lo hi up) :: (netOf n F T G P m L H U V).wy lo hi up) ∧ Below w.heap.size w w' := by
  intro lo
  induction lo using Nat.strongRecOn with
  | ind lo ih =>
    intro hi up w hR hs hlh hhk h29
    have B0 := u3_new w (p := p) (ao := ao) (n := n) (cap := cap) (po := po) (k := k) (pcap := pcap) (eo := eo) (m := m) (ecap := ecap) (uo := uo) (ucap := ucap) (vo := vo) (vcap := vcap)
    go_enter Tryz.func77, Tryz.ntmps77
    have hR0 := hR.below B0.bel (Nat.le_refl _)
    have q1 := B0.h1
    go_wp2_with fail
    generalize (((w.alloc (.cells #[.int .i64 p, .slice ao n cap] 26)).alloc (.cells #[.slice po k pcap, .slice eo m ecap] 30)).alloc (.cells #[.slice uo m ucap, .slice vo m vcap] 34)) = W at B0 hR0 q1 ⊢
    refine (l4Find_net hE eo ecap (lo : Int) (hi : Int) hm _ hR0.eds).mono ?_
    rintro e w1 ⟨r, rfl, hr1, _, hb1⟩
    obtain ⟨rfl, hfm⟩ := hr1 hs
    have B1 := B0.next hb1
    have hR1 := hR0.below hb1 (Nat.le_refl _)
    clear B0 hR0 q1
    obtain ⟨e0, he0⟩ : ∃ e0, fnd L H lo hi m = e0 := ⟨_, rfl⟩
    rw [he0] at hfm ⊢
    obtain ⟨b1, o1, rfl, c1⟩ := hR1.ord lo (by omega)
    obtain ⟨b1', o1', e1', c2⟩ := hR1.ord hi (by omega)
    cases e1'
    obtain ⟨b2, o2, rfl, c3⟩ := hR1.up e0 hfm
    obtain ⟨b3, o3, rfl, c4⟩ := hR1.dn e0 hfm
    have q0 := B1.h0
    have q2 := B1.m0
    have q3 := B1.m1
    have q4 := B1.g0
    have q5 := B1.g1
    have l1 : (0 : Int) ≤ (lo : Int) := by omega
    have l2 : (lo : Int) < (k : Int) := by omega
    have l3 : (0 : Int) ≤ (hi : Int) := by omega
    have l4 : (hi : Int) < (k : Int) := by omega
    have l5 : (0 : Int) ≤ (e0 : Int) := by omega
    have l6 : (e0 : Int) < (m : Int) := by omega
    cases up
    · go_wp2_with fail
      refine (l1Weight_any p ao n cap F T G (P hi) (P lo) hn hA _ hR1.arcs).mono ?_
      rintro e w2 ⟨rfl, hb2⟩
      have B2 := B1.next hb2
      have hR2 := hR1.below hb2 (Nat.le_refl _)
      have hwt : (netOf n F T G P m L H U V).wt lo hi false = V e0 := by simp [Net.wt, netOf, he0]
      by_cases hA1 : lastW F T G (P hi) (P lo) n = V e0
      · have hh : (netOf n F T G P m L H U V).half lo hi false = none := by
          have : (netOf n F T G P m L H U V).isA lo hi false = true := by
            unfold Net.isA
            rw [hwt]
            simpa [netOf, frR, toR] using hA1
          unfold Net.half
          rw [if_pos this]
        clear ih
        go_wp2
        go_ret
        rw [Net.wy_none hh]
        exact ⟨_, _, rfl, lown_lit2 _ _ _ (by have := B2.bel.size; omega), B2.bel.alloc B2.bel.size _⟩
      have hnA : (netOf n F T G P m L H U V).half lo hi false = (netOf n F T G P m L H U V).fst lo hi false := by
        have : ¬ (netOf n F T G P m L H U V).isA lo hi false = true := by
          unfold Net.isA
          rw [hwt]
          simpa [netOf, frR, toR] using hA1
        unfold Net.half
        rw [if_neg this]
      have q1 := B2.h1
      clear B1 hR1 c1 c2 c3 c4 q0 q2 q3 q4 q5 q1
      have hAf : (lastW F T G (P hi) (P lo) n == V e0) = false := by simpa using hA1
      go_wp2
      clear hA1 hAf
      go_loopw [18] (fun x wr => ∃ v : Nat, v ≤ lo ∧ x = .int .i64 v ∧ (∀ t, t < v → (netOf n F T G P m L H U V).fit lo hi false t = false) ∧ U3 w wr p ao n cap (some ⟨b1, o1, none⟩) k pcap eo m ecap (some ⟨b2, o2, none⟩) ucap (some ⟨b3, o3, none⟩) vcap) (fun x _ => lo - (intOf x).toNat)
      case atStart => exact ⟨0, Nat.zero_le _, rfl, fun t ht => by omega, B2⟩
      case round =>
        clear B2 hR2
        obtain ⟨v, hv, rfl, hno, B2⟩ := hrel
        have HNO : Hid (∀ t, t < v → (netOf n F T G P m L H U V).fit lo hi false t = false) := hno
        clear hno
        by_cases hlt : v < lo
        rotate_left
        · obtain rfl : v = lo := by omega
          have hh : (netOf n F T G P m L H U V).half v hi false = none := by rw [hnA]; exact Net.fst_end HNO.out
          clear ih
          go_wp2
          go_ret
          rw [Net.wy_none hh]
          exact ⟨_, _, rfl, lown_lit2 _ _ _ (by have := B2.bel.size; omega), B2.bel.alloc B2.bel.size _⟩
        have hR2 := hR.below B2.bel (Nat.le_refl _)
        have l7 : (v : Int) < (lo : Int) := by omega
        have q1 := B2.h1
        go_wp2_with fail
        refine (l4Find_net hE eo ecap (v : Int) (lo : Int) hm _ hR2.eds).mono ?_
        rintro e w3 ⟨r1, rfl, hy1, hz1, hb3⟩
        have B3 := B2.next hb3
        have q13 := B3.h1
        have hR3 := hR2.below hb3 (Nat.le_refl _)
        clear B2 hR2 q1
        go_wp2_with fail
        refine (l4Find_net hE eo ecap (v : Int) (hi : Int) hm _ hR3.eds).mono ?_
        rintro e w4 ⟨r2, rfl, hy2, hz2, hb4⟩
        have B4 := B3.next hb4
        have hR4 := hR3.below hb4 (Nat.le_refl _)
        clear B3 hR3 q13
        have hcont : ∀ h : (netOf n F T G P m L H U V).fit lo hi false v = false, ∀ t, t < v + 1 → (netOf n F T G P m L H U V).fit lo hi false t = false := fun h t ht => by
          by_cases e : t = v
          · subst e; exact h
          · exact HNO.out t (by omega)
        cases hs1 : hsB m L H v lo with
        | false =>
          have hlt1 := hz1 hs1
          have hf := hcont (by simp [Net.fit, netOf, frR, toR, hs1])
          clear ih hy1 hy2 hz1 hz2 hcont
          go_wp2
          go_roundw
          case rel => exact ⟨v + 1, by omega, by go_num, hf, B4⟩
          case measure => simp [intOf]; omega
        | true =>
        obtain ⟨rfl, hi0⟩ := hy1 hs1
        have hge1 : ¬ ((fnd L H v lo m : Nat) : Int) < 0 := by omega
        cases hs2 : hsB m L H v hi with
        | false =>
          have hlt2 := hz2 hs2
          have hf := hcont (by simp [Net.fit, netOf, frR, toR, hs2])
          clear ih hy1 hy2 hz1 hz2 hcont
          go_wp2
          go_roundw
          case rel => exact ⟨v + 1, by omega, by go_num, hf, B4⟩
          case measure => simp [intOf]; omega
        | true =>
        obtain ⟨rfl, hk0⟩ := hy2 hs2
        have hge2 : ¬ ((fnd L H v hi m : Nat) : Int) < 0 := by omega
        clear hy1 hy2 hz1 hz2
        have hfit : (netOf n F T G P m L H U V).fit lo hi false v = decide (addF (V (fnd L H v hi m)) (U (fnd L H v lo m)) = V e0) := by simp [Net.fit, netOf, frR, toR, hs1, hs2, Net.wt, he0]
        obtain ⟨i0, hie⟩ : ∃ i0, fnd L H v lo m = i0 := ⟨_, rfl⟩
        obtain ⟨k0, hke⟩ : ∃ k0, fnd L H v hi m = k0 := ⟨_, rfl⟩
        rw [hie] at hi0 hge1 hfit ⊢
        rw [hke] at hk0 hge2 hfit ⊢
        obtain ⟨b4, o4, e4, c3⟩ := hR4.up i0 hi0
        obtain ⟨b5, o5, e5, c4⟩ := hR4.dn k0 hk0
        cases e4
        cases e5
        have q2 := B4.m0
        have q3 := B4.m1
        have l8 : (0 : Int) ≤ (i0 : Int) := by omega
        have l9 : (i0 : Int) < (m : Int) := by omega
        have l10 : (0 : Int) ≤ (k0 : Int) := by omega
        have l11 : (k0 : Int) < (m : Int) := by omega
        go_wp2_with fail
        have hS : (fun w' => w'.cell? ⟨w.heap.size + 1 + 1, 1, none⟩ = some (.slice (some ⟨b3, o3, none⟩) m vcap) ∧ w'.cell? ⟨w.heap.size + 1 + 1, 0, none⟩ = some (.slice (some ⟨b2, o2, none⟩) m ucap) ∧ w'.cell? ⟨b3, o3 + k0, none⟩ = some (.int .i64 (V k0)) ∧ w'.cell? ⟨b2, o2 + i0, none⟩ = some (.int .i64 (U i0))) w4.drew := ⟨q3, q2, c4, c3⟩
        refine wp_region_held_drew (S := fun w' => w'.cell? ⟨w.heap.size + 1 + 1, 1, none⟩ = some (.slice (some ⟨b3, o3, none⟩) m vcap) ∧ w'.cell? ⟨w.heap.size + 1 + 1, 0, none⟩ = some (.slice (some ⟨b2, o2, none⟩) m ucap) ∧ w'.cell? ⟨b3, o3 + k0, none⟩ = some (.int .i64 (V k0)) ∧ w'.cell? ⟨b2, o2 + i0, none⟩ = some (.int .i64 (U i0))) (by kernel_rfl) hS (fun hS => ?_)
        refine takeH 0 (some 82) (.bool false) rfl rfl (by kernel_rfl) (by kernel_rfl) (by kernel_rfl) (fun _ _ _ h => h) (by rfl) hS (fun w hSw => by go_split_ands; go_simp <;> first | omega | (rw [IntKind.wrap_i64]; omega) | (intro h; exfalso; omega)) ?_
        simp only [Act.put, List.setIfInBounds_toArray, List.set_cons_zero, List.set_cons_succ]
        refine takeH 1 (some 83) (.bool false) rfl rfl (by kernel_rfl) (by kernel_rfl) (by kernel_rfl) (fun _ _ _ h => h) (by rfl) hS (fun w hSw => by go_split_ands; go_simp <;> first | omega | (rw [IntKind.wrap_i64]; omega) | (intro h; exfalso; omega)) ?_
        simp only [Act.put, List.setIfInBounds_toArray, List.set_cons_zero, List.set_cons_succ]
        refine skipH 2 (some 84) rfl rfl (by kernel_rfl) (by kernel_rfl) (by kernel_rfl) (fun _ _ _ h => h) (by rfl) hS ?_
        simp only [Act.put, List.setIfInBounds_toArray, List.set_cons_zero, List.set_cons_succ]
        refine skipH 3 (some 85) rfl rfl (by kernel_rfl) (by kernel_rfl) (by kernel_rfl) (fun _ _ _ h => h) (by rfl) hS ?_
        simp only [Act.put, List.setIfInBounds_toArray, List.set_cons_zero, List.set_cons_succ]
        refine skipH 4 (some 86) rfl rfl (by kernel_rfl) (by kernel_rfl) (by kernel_rfl) (fun _ _ _ h => h) (by rfl) hS ?_
        simp only [Act.put, List.setIfInBounds_toArray, List.set_cons_zero, List.set_cons_succ]
        refine skipH 5 (some 87) rfl rfl (by kernel_rfl) (by kernel_rfl) (by kernel_rfl) (fun _ _ _ h => h) (by rfl) hS ?_
        simp only [Act.put, List.setIfInBounds_toArray, List.set_cons_zero, List.set_cons_succ]
        refine skipH 6 (some 88) rfl rfl (by kernel_rfl) (by kernel_rfl) (by kernel_rfl) (fun _ _ _ h => h) (by rfl) hS ?_
        simp only [Act.put, List.setIfInBounds_toArray, List.set_cons_zero, List.set_cons_succ]
        refine skipH 7 (some 89) rfl rfl (by kernel_rfl) (by kernel_rfl) (by kernel_rfl) (fun _ _ _ h => h) (by rfl) hS ?_
        simp only [Act.put, List.setIfInBounds_toArray, List.set_cons_zero, List.set_cons_succ]
        refine skipH 8 (some 90) rfl rfl (by kernel_rfl) (by kernel_rfl) (by kernel_rfl) (fun _ _ _ h => h) (by rfl) hS ?_
        simp only [Act.put, List.setIfInBounds_toArray, List.set_cons_zero, List.set_cons_succ]
        refine skipH 9 (some 91) rfl rfl (by kernel_rfl) (by kernel_rfl) (by kernel_rfl) (fun _ _ _ h => h) (by rfl) hS ?_
        simp only [Act.put, List.setIfInBounds_toArray, List.set_cons_zero, List.set_cons_succ]
        refine skipH 10 (some 92) rfl rfl (by kernel_rfl) (by kernel_rfl) (by kernel_rfl) (fun _ _ _ h => h) (by rfl) hS ?_
        simp only [Act.put, List.setIfInBounds_toArray, List.set_cons_zero, List.set_cons_succ]
        refine skipH 11 (some 93) rfl rfl (by kernel_rfl) (by kernel_rfl) (by kernel_rfl) (fun _ _ _ h => h) (by rfl) hS ?_
        simp only [Act.put, List.setIfInBounds_toArray, List.set_cons_zero, List.set_cons_succ]
        refine skipH 12 (some 94) rfl rfl (by kernel_rfl) (by kernel_rfl) (by kernel_rfl) (fun _ _ _ h => h) (by rfl) hS ?_
        simp only [Act.put, List.setIfInBounds_toArray, List.set_cons_zero, List.set_cons_succ]
        refine skipH 13 (some 95) rfl rfl (by kernel_rfl) (by kernel_rfl) (by kernel_rfl) (fun _ _ _ h => h) (by rfl) hS ?_
        simp only [Act.put, List.setIfInBounds_toArray, List.set_cons_zero, List.set_cons_succ]
        refine skipH 14 (some 96) rfl rfl (by kernel_rfl) (by kernel_rfl) (by kernel_rfl) (fun _ _ _ h => h) (by rfl) hS ?_
        simp only [Act.put, List.setIfInBounds_toArray, List.set_cons_zero, List.set_cons_succ]
        refine takeH 15 (some 97) (.bool false) rfl rfl (by kernel_rfl) (by kernel_rfl) (by kernel_rfl) (fun _ _ _ h => h) (by rfl) hS (fun w hSw => by go_split_ands; go_simp <;> first | omega | (rw [IntKind.wrap_i64]; omega) | (intro h; exfalso; omega)) ?_
        simp only [Act.put, List.setIfInBounds_toArray, List.set_cons_zero, List.set_cons_succ]
        refine takeH 16 (some 81) (.bool false) rfl rfl (by kernel_rfl) (by kernel_rfl) (by kernel_rfl) (fun _ _ _ h => h) (by rfl) hS (fun w hSw => by go_split_ands; go_simp <;> first | omega | (rw [IntKind.wrap_i64]; omega) | (intro h; exfalso; omega)) ?_
        simp only [Act.put, List.setIfInBounds_toArray, List.set_cons_zero, List.set_cons_succ]
        refine wpAnyH_done (by kernel_rfl) ?_ _
        go_wp2_with fail
        have hS2 : (fun w' => w'.cell? ⟨w.heap.size + 1 + 1, 1, none⟩ = some (.slice (some ⟨b3, o3, none⟩) m vcap) ∧ w'.cell? ⟨w.heap.size + 1 + 1, 0, none⟩ = some (.slice (some ⟨b2, o2, none⟩) m ucap) ∧ w'.cell? ⟨b3, o3 + k0, none⟩ = some (.int .i64 (V k0)) ∧ w'.cell? ⟨b2, o2 + i0, none⟩ = some (.int .i64 (U i0))) w4.drew.drew := hS
        refine wp_region_held_drew (S := fun w' => w'.cell? ⟨w.heap.size + 1 + 1, 1, none⟩ = some (.slice (some ⟨b3, o3, none⟩) m vcap) ∧ w'.cell? ⟨w.heap.size + 1 + 1, 0, none⟩ = some (.slice (some ⟨b2, o2, none⟩) m ucap) ∧ w'.cell? ⟨b3, o3 + k0, none⟩ = some (.int .i64 (V k0)) ∧ w'.cell? ⟨b2, o2 + i0, none⟩ = some (.int .i64 (U i0))) (by kernel_rfl) hS2 (fun hS2 => ?_)
        refine takeH 0 (some 113) (.bool false) rfl rfl (by kernel_rfl) (by kernel_rfl) (by kernel_rfl) (fun _ _ _ h => h) (by rfl) hS2 (fun w hSw => by go_split_ands; go_simp <;> first | omega | (rw [IntKind.wrap_i64]; omega) | (intro h; exfalso; omega)) ?_
        simp only [Act.put, List.setIfInBounds_toArray, List.set_cons_zero, List.set_cons_succ]
        refine takeH 1 (some 114) (.bool true) rfl rfl (by kernel_rfl) (by kernel_rfl) (by kernel_rfl) (fun _ _ _ h => h) (by rfl) hS2 (fun w hSw => by go_split_ands; go_simp <;> first | omega | (rw [IntKind.wrap_i64]; omega) | (intro h; exfalso; omega)) ?_
        simp only [Act.put, List.setIfInBounds_toArray, List.set_cons_zero, List.set_cons_succ]
        refine takeH 2 (some 115) (.bool true) rfl rfl (by kernel_rfl) (by kernel_rfl) (by kernel_rfl) (fun _ _ _ h => h) (by rfl) hS2 (fun w hSw => by go_split_ands; go_simp <;> first | omega | (rw [IntKind.wrap_i64]; omega) | (intro h; exfalso; omega)) ?_
        simp only [Act.put, List.setIfInBounds_toArray, List.set_cons_zero, List.set_cons_succ]
        refine takeH 3 (some 116) (.pointer (some ⟨w.heap.size + 1 + 1, 1, none⟩)) rfl rfl (by kernel_rfl) (by kernel_rfl) (by kernel_rfl) (fun _ _ _ h => h) (by rfl) hS2 (fun w hSw => by go_split_ands; go_simp <;> first | omega | (rw [IntKind.wrap_i64]; omega) | (intro h; exfalso; omega)) ?_
        simp only [Act.put, List.setIfInBounds_toArray, List.set_cons_zero, List.set_cons_succ]
        refine takeH 4 (some 117) (.slice (some ⟨b3, o3, none⟩) m vcap) rfl rfl (by kernel_rfl) (by kernel_rfl) (by kernel_rfl) (fun _ _ _ h => h) (by rfl) hS2 (fun w hSw => by go_split_ands; go_simp <;> first | omega | (rw [IntKind.wrap_i64]; omega) | (intro h; exfalso; omega)) ?_
        simp only [Act.put, List.setIfInBounds_toArray, List.set_cons_zero, List.set_cons_succ]
        refine takeH 5 (some 118) (.int .i64 (k0 : Int)) rfl rfl (by kernel_rfl) (by kernel_rfl) (by kernel_rfl) (fun _ _ _ h => h) (by rfl) hS2 (fun w hSw => by go_split_ands; go_simp <;> first | omega | (rw [IntKind.wrap_i64]; omega) | (intro h; exfalso; omega)) ?_
        simp only [Act.put, List.setIfInBounds_toArray, List.set_cons_zero, List.set_cons_succ]
        refine takeH 6 (some 119) (.pointer (some ⟨b3, o3 + k0, none⟩)) rfl rfl (by kernel_rfl) (by kernel_rfl) (by kernel_rfl) (fun _ _ _ h => h) (by rfl) hS2 (fun w hSw => by go_split_ands; go_simp <;> first | omega | (rw [IntKind.wrap_i64]; omega) | (intro h; exfalso; omega)) ?_
        simp only [Act.put, List.setIfInBounds_toArray, List.set_cons_zero, List.set_cons_succ]
        refine takeH 7 (some 120) (.int .i64 (V k0)) rfl rfl (by kernel_rfl) (by kernel_rfl) (by kernel_rfl) (fun _ _ _ h => h) (by rfl) hS2 (fun w hSw => by go_split_ands; go_simp <;> first | omega | (rw [IntKind.wrap_i64]; omega) | (intro h; exfalso; omega)) ?_
        simp only [Act.put, List.setIfInBounds_toArray, List.set_cons_zero, List.set_cons_succ]
        refine takeH 8 (some 121) (.pointer (some ⟨w.heap.size + 1 + 1, 0, none⟩)) rfl rfl (by kernel_rfl) (by kernel_rfl) (by kernel_rfl) (fun _ _ _ h => h) (by rfl) hS2 (fun w hSw => by go_split_ands; go_simp <;> first | omega | (rw [IntKind.wrap_i64]; omega) | (intro h; exfalso; omega)) ?_
        simp only [Act.put, List.setIfInBounds_toArray, List.set_cons_zero, List.set_cons_succ]
        refine takeH 9 (some 122) (.slice (some ⟨b2, o2, none⟩) m ucap) rfl rfl (by kernel_rfl) (by kernel_rfl) (by kernel_rfl) (fun _ _ _ h => h) (by rfl) hS2 (fun w hSw => by go_split_ands; go_simp <;> first | omega | (rw [IntKind.wrap_i64]; omega) | (intro h; exfalso; omega)) ?_
        simp only [Act.put, List.setIfInBounds_toArray, List.set_cons_zero, List.set_cons_succ]
        refine takeH 10 (some 123) (.int .i64 (i0 : Int)) rfl rfl (by kernel_rfl) (by kernel_rfl) (by kernel_rfl) (fun _ _ _ h => h) (by rfl) hS2 (fun w hSw => by go_split_ands; go_simp <;> first | omega | (rw [IntKind.wrap_i64]; omega) | (intro h; exfalso; omega)) ?_
        simp only [Act.put, List.setIfInBounds_toArray, List.set_cons_zero, List.set_cons_succ]
        refine takeH 11 (some 124) (.pointer (some ⟨b2, o2 + i0, none⟩)) rfl rfl (by kernel_rfl) (by kernel_rfl) (by kernel_rfl) (fun _ _ _ h => h) (by rfl) hS2 (fun w hSw => by go_split_ands; go_simp <;> first | omega | (rw [IntKind.wrap_i64]; omega) | (intro h; exfalso; omega)) ?_
        simp only [Act.put, List.setIfInBounds_toArray, List.set_cons_zero, List.set_cons_succ]
        refine takeH 12 (some 125) (.int .i64 (U i0)) rfl rfl (by kernel_rfl) (by kernel_rfl) (by kernel_rfl) (fun _ _ _ h => h) (by rfl) hS2 (fun w hSw => by go_split_ands; go_simp <;> first | omega | (rw [IntKind.wrap_i64]; omega) | (intro h; exfalso; omega)) ?_
        simp only [Act.put, List.setIfInBounds_toArray, List.set_cons_zero, List.set_cons_succ]
        refine takeH 14 (some 127) (.int .i64 (V e0)) rfl rfl (by kernel_rfl) (by kernel_rfl) (by kernel_rfl) (fun _ _ _ h => h) (by rfl) hS2 (fun w hSw => by go_split_ands; go_simp <;> first | omega | (rw [IntKind.wrap_i64]; omega) | (intro h; exfalso; omega)) ?_
        simp only [Act.put, List.setIfInBounds_toArray, List.set_cons_zero, List.set_cons_succ]
        refine step1H 13 _ rfl (by kernel_rfl) (by rfl) ?_
        go_simp
        refine (l1Add_any (V k0) (U i0) (hV _ hk0).1 (hV _ hk0).2 (hU _ hi0).1 (hU _ hi0).2 _).mono ?_
        rintro e w5 ⟨rfl, rfl⟩
        refine ⟨hS2, ?_⟩
        by_cases hq : addF (V k0) (U i0) = V e0
        · have hqq : (min 1000000000000 (V k0 + U i0) == V e0) = true := by simpa [addF] using hq
          refine takeH 15 (some 128) (.bool true) rfl rfl (by kernel_rfl) (by kernel_rfl) (by kernel_rfl) (fun _ _ _ h => h) (by rfl) hS2 (fun w hSw => by go_split_ands; go_simp <;> first | omega | (rw [IntKind.wrap_i64]; omega) | (intro h; exfalso; omega)) ?_
          simp only [Act.put, List.setIfInBounds_toArray, List.set_cons_zero, List.set_cons_succ]
          refine takeH 16 (some 129) (.bool true) rfl rfl (by kernel_rfl) (by kernel_rfl) (by kernel_rfl) (fun _ _ _ h => h) (by rfl) hS2 (fun w hSw => by go_split_ands; go_simp <;> first | omega | (rw [IntKind.wrap_i64]; omega) | (intro h; exfalso; omega)) ?_
          simp only [Act.put, List.setIfInBounds_toArray, List.set_cons_zero, List.set_cons_succ]
          refine takeH 17 (some 112) (.bool true) rfl rfl (by kernel_rfl) (by kernel_rfl) (by kernel_rfl) (fun _ _ _ h => h) (by rfl) hS2 (fun w hSw => by go_split_ands; go_simp <;> first | omega | (rw [IntKind.wrap_i64]; omega) | (intro h; exfalso; omega)) ?_
          simp only [Act.put, List.setIfInBounds_toArray, List.set_cons_zero, List.set_cons_succ]
          refine wpAnyH_done (by kernel_rfl) ?_ _
          go_wp2_with fail
          have B5 := ((B4.next (Below.refl _ _).drew).next (Below.refl _ _).drew).next (Below.refl _ _).drew
          refine wp_region_held_drew (S := fun w' => U3 w w' p ao n cap (some ⟨b1, o1, none⟩) k pcap eo m ecap (some ⟨b2, o2, none⟩) ucap (some ⟨b3, o3, none⟩) vcap) (by kernel_rfl) B5 (fun hS3 => ?_)
          refine takeH 0 (some 130) (.agg #[.int .i64 p, .slice ao n cap]) rfl rfl (by kernel_rfl) (by kernel_rfl) (by kernel_rfl) (fun _ _ _ h => h) (by rfl) hS3 (fun w' hSw => by have y0 := hSw.g0; have y1 := hSw.g1; have y2 := hSw.h0; have y3 := hSw.h1; have y4 := hSw.m0; have y5 := hSw.m1; go_simp) ?_
          simp only [Act.put, List.setIfInBounds_toArray, List.set_cons_zero, List.set_cons_succ]
          refine takeH 1 (some 131) (.agg #[.slice (some ⟨b1, o1, none⟩) k pcap, .slice eo m ecap]) rfl rfl (by kernel_rfl) (by kernel_rfl) (by kernel_rfl) (fun _ _ _ h => h) (by rfl) hS3 (fun w' hSw => by have y0 := hSw.g0; have y1 := hSw.g1; have y2 := hSw.h0; have y3 := hSw.h1; have y4 := hSw.m0; have y5 := hSw.m1; go_simp) ?_
          simp only [Act.put, List.setIfInBounds_toArray, List.set_cons_zero, List.set_cons_succ]
          refine takeH 2 (some 132) (.agg #[.slice (some ⟨b2, o2, none⟩) m ucap, .slice (some ⟨b3, o3, none⟩) m vcap]) rfl rfl (by kernel_rfl) (by kernel_rfl) (by kernel_rfl) (fun _ _ _ h => h) (by rfl) hS3 (fun w' hSw => by have y0 := hSw.g0; have y1 := hSw.g1; have y2 := hSw.h0; have y3 := hSw.h1; have y4 := hSw.m0; have y5 := hSw.m1; go_simp) ?_
          simp only [Act.put, List.setIfInBounds_toArray, List.set_cons_zero, List.set_cons_succ]
          refine takeH 3 (some 133) (.int .i64 (v : Int)) rfl rfl (by kernel_rfl) (by kernel_rfl) (by kernel_rfl) (fun _ _ _ h => h) (by rfl) hS3 (fun w' hSw => by have y0 := hSw.g0; have y1 := hSw.g1; have y2 := hSw.h0; have y3 := hSw.h1; have y4 := hSw.m0; have y5 := hSw.m1; go_simp) ?_
          simp only [Act.put, List.setIfInBounds_toArray, List.set_cons_zero, List.set_cons_succ]
          refine takeH 4 (some 134) (.int .i64 (hi : Int)) rfl rfl (by kernel_rfl) (by kernel_rfl) (by kernel_rfl) (fun _ _ _ h => h) (by rfl) hS3 (fun w' hSw => by have y0 := hSw.g0; have y1 := hSw.g1; have y2 := hSw.h0; have y3 := hSw.h1; have y4 := hSw.m0; have y5 := hSw.m1; go_simp) ?_
          simp only [Act.put, List.setIfInBounds_toArray, List.set_cons_zero, List.set_cons_succ]
          refine takeH 6 (some 136) (.agg #[.int .i64 p, .slice ao n cap]) rfl rfl (by kernel_rfl) (by kernel_rfl) (by kernel_rfl) (fun _ _ _ h => h) (by rfl) hS3 (fun w' hSw => by have y0 := hSw.g0; have y1 := hSw.g1; have y2 := hSw.h0; have y3 := hSw.h1; have y4 := hSw.m0; have y5 := hSw.m1; go_simp) ?_
          simp only [Act.put, List.setIfInBounds_toArray, List.set_cons_zero, List.set_cons_succ]
          refine takeH 7 (some 137) (.agg #[.slice (some ⟨b1, o1, none⟩) k pcap, .slice eo m ecap]) rfl rfl (by kernel_rfl) (by kernel_rfl) (by kernel_rfl) (fun _ _ _ h => h) (by rfl) hS3 (fun w' hSw => by have y0 := hSw.g0; have y1 := hSw.g1; have y2 := hSw.h0; have y3 := hSw.h1; have y4 := hSw.m0; have y5 := hSw.m1; go_simp) ?_
          simp only [Act.put, List.setIfInBounds_toArray, List.set_cons_zero, List.set_cons_succ]
          refine takeH 8 (some 138) (.agg #[.slice (some ⟨b2, o2, none⟩) m ucap, .slice (some ⟨b3, o3, none⟩) m vcap]) rfl rfl (by kernel_rfl) (by kernel_rfl) (by kernel_rfl) (fun _ _ _ h => h) (by rfl) hS3 (fun w' hSw => by have y0 := hSw.g0; have y1 := hSw.g1; have y2 := hSw.h0; have y3 := hSw.h1; have y4 := hSw.m0; have y5 := hSw.m1; go_simp) ?_
          simp only [Act.put, List.setIfInBounds_toArray, List.set_cons_zero, List.set_cons_succ]
          refine takeH 9 (some 139) (.int .i64 (v : Int)) rfl rfl (by kernel_rfl) (by kernel_rfl) (by kernel_rfl) (fun _ _ _ h => h) (by rfl) hS3 (fun w' hSw => by have y0 := hSw.g0; have y1 := hSw.g1; have y2 := hSw.h0; have y3 := hSw.h1; have y4 := hSw.m0; have y5 := hSw.m1; go_simp) ?_
          simp only [Act.put, List.setIfInBounds_toArray, List.set_cons_zero, List.set_cons_succ]
          refine takeH 10 (some 140) (.int .i64 (lo : Int)) rfl rfl (by kernel_rfl) (by kernel_rfl) (by kernel_rfl) (fun _ _ _ h => h) (by rfl) hS3 (fun w' hSw => by have y0 := hSw.g0; have y1 := hSw.g1; have y2 := hSw.h0; have y3 := hSw.h1; have y4 := hSw.m0; have y5 := hSw.m1; go_simp) ?_
          simp only [Act.put, List.setIfInBounds_toArray, List.set_cons_zero, List.set_cons_succ]
          have hR5 := hR.below B5.bel (Nat.le_refl _)
          have hsz5 := B5.sz
          have hbl5 := B5.bel
          generalize w4.drew.drew.drew = x0 at B5 hS3 hR5 hsz5 hbl5 ⊢
          refine step1H 5 _ rfl (by kernel_rfl) (by rfl) ?_
          go_simp
          refine (ih v hlt hi false _ hR5 hs2 (by omega) (by omega) (by omega)).mono ?_
          rintro e x1 ⟨g1, cc1, rfl, hL1, hb1⟩
          have B6 := B5.next hb1
          have hR6 := hR5.below hb1 (Nat.le_refl _)
          refine ⟨B6, ?_⟩
          refine step1H 11 _ rfl (by kernel_rfl) (by rfl) ?_
          go_simp
          refine (ih v hlt lo true _ hR6 hs1 (by omega) (by omega) (by omega)).mono ?_
          rintro e x2 ⟨g2, cc2, rfl, hL2, hb2⟩
          have B7 := B6.next hb2
          refine ⟨B7, ?_⟩
          have hy := Net.wy_some (hnA.trans (Net.fst_step hlt HNO.out (hfit.trans (by simpa using hq))))
          have z1 := (netOf n F T G P m L H U V).wy_len v hi false
          have z2 := (netOf n F T G P m L H U V).wy_len v lo true
          have zp : 2 ^ v ≤ 2 ^ 29 := Nat.pow_le_pow_right (by omega) (by omega)
          simp only [frR, toR, if_true, if_false, Bool.false_eq_true] at hy hL1 hL2 ⊢
          clear ih
          generalize (netOf n F T G P m L H U V).wy v hi false = y1 at hL1 z1 hy ⊢
          generalize (netOf n F T G P m L H U V).wy v lo true = y2 at hL2 z2 hy ⊢
          have hcp : y2.length + 1 ≤ cc2 := by have := hL2.cap; simpa using this
          obtain ⟨g2', e2', hg2, _, hc2⟩ := hL2.cells (by simp)
          cases e2'
          obtain ⟨g1', e1'', hg1, _, _⟩ := hL1.cells (by simp)
          cases e1''
          have u1 : (1 : Int) ≤ (y2.length : Int) + 1 := by omega
          have u2 : ¬ cc2 = 1 := by omega
          have hL1' := (hL1.from (base' := w.heap.size + 3) hsz5).next hb2
          refine takeH 12 (some 142) (.slice (some ⟨g2, 1, none⟩) y2.length (cc2 - 1)) rfl rfl (by kernel_rfl) (by kernel_rfl) (by kernel_rfl) (fun _ _ _ h => h) (by rfl) B7 (fun w' hSw => by go_simp) ?_
          simp only [Act.put, List.setIfInBounds_toArray, List.set_cons_zero, List.set_cons_succ]
          refine step1H 13 _ rfl (by kernel_rfl) (by rfl) ?_
          refine wp_appL (.tmp 135) (.tmp 142) rfl 143 rfl (w.heap.size + 3) cc1 (some ⟨g1, 0, none⟩) _ y2 rfl hL1' g2 1 y2.length (cc2 - 1) rfl rfl (fun j u hu => by have := hc2 (j + 1) u (by simpa using hu); rw [Nat.add_comm]; exact this) (by omega) (by simp; omega) (by omega) (by have := B7.sz; omega) ?_
          intro g3 cc3 x3 hown hgr _
          have hgr' : x2.grownBy x3 (some g1) := hgr
          have hfar := gr_below hgr' (B := w.heap.size + 3) (Nat.le_trans hsz5 hg1) (by have := B7.sz; omega)
          have B8 := B7.far hfar
          refine ⟨B8, ?_⟩
          simp only [Act.put, List.setIfInBounds_toArray, List.set_cons_zero, List.set_cons_succ]
          refine takeH 14 (some 12) (.slice (some ⟨g3, 0, none⟩) (y1.length + 1 + y2.length) cc3) rfl rfl (by kernel_rfl) (by kernel_rfl) (by kernel_rfl) (fun _ _ _ h => h) (by rfl) B8 (fun w' hSw => by go_simp) ?_
          simp only [Act.put, List.setIfInBounds_toArray, List.set_cons_zero, List.set_cons_succ]
          refine wpAnyH_done (by kernel_rfl) ?_ _
          go_wp2
          go_ret
          rw [hy]
          refine ⟨g3, cc3, by simp [Nat.add_assoc, Nat.add_comm, Nat.add_left_comm], ?_, B8.bel⟩
          have := hown.from (base' := w.heap.size) (by omega)
          simpa [frR] using this
        · have hqq : (min 1000000000000 (V k0 + U i0) == V e0) = false := by simpa [addF] using hq
          refine takeH 15 (some 128) (.bool false) rfl rfl (by kernel_rfl) (by kernel_rfl) (by kernel_rfl) (fun _ _ _ h => h) (by rfl) hS2 (fun w hSw => by go_split_ands; go_simp <;> first | omega | (rw [IntKind.wrap_i64]; omega) | (intro h; exfalso; omega)) ?_
          simp only [Act.put, List.setIfInBounds_toArray, List.set_cons_zero, List.set_cons_succ]
          refine takeH 16 (some 129) (.bool false) rfl rfl (by kernel_rfl) (by kernel_rfl) (by kernel_rfl) (fun _ _ _ h => h) (by rfl) hS2 (fun w hSw => by go_split_ands; go_simp <;> first | omega | (rw [IntKind.wrap_i64]; omega) | (intro h; exfalso; omega)) ?_
          simp only [Act.put, List.setIfInBounds_toArray, List.set_cons_zero, List.set_cons_succ]
          refine takeH 17 (some 112) (.bool false) rfl rfl (by kernel_rfl) (by kernel_rfl) (by kernel_rfl) (fun _ _ _ h => h) (by rfl) hS2 (fun w hSw => by go_split_ands; go_simp <;> first | omega | (rw [IntKind.wrap_i64]; omega) | (intro h; exfalso; omega)) ?_
          simp only [Act.put, List.setIfInBounds_toArray, List.set_cons_zero, List.set_cons_succ]
          refine wpAnyH_done (by kernel_rfl) ?_ _
          have hf := hcont (by rw [hfit]; simpa using hq)
          clear ih hcont
          go_wp2
          go_roundw
          case rel => exact ⟨v + 1, by omega, by go_num, hf, (B4.next (Below.refl _ _).drew).next (Below.refl _ _).drew⟩
          case measure => simp [intOf]; omega
    · go_wp2_with fail
      refine (l1Weight_any p ao n cap F T G (P lo) (P hi) hn hA _ hR1.arcs).mono ?_
      rintro e w2 ⟨rfl, hb2⟩
      have B2 := B1.next hb2
      have hR2 := hR1.below hb2 (Nat.le_refl _)
      have hwt : (netOf n F T G P m L H U V).wt lo hi true = U e0 := by simp [Net.wt, netOf, he0]
      by_cases hA1 : lastW F T G (P lo) (P hi) n = U e0
      · have hh : (netOf n F T G P m L H U V).half lo hi true = none := by
          have : (netOf n F T G P m L H U V).isA lo hi true = true := by
            unfold Net.isA
            rw [hwt]
            simpa [netOf, frR, toR] using hA1
          unfold Net.half
          rw [if_pos this]
        clear ih
        go_wp2
        go_ret
        rw [Net.wy_none hh]
        exact ⟨_, _, rfl, lown_lit2 _ _ _ (by have := B2.bel.size; omega), B2.bel.alloc B2.bel.size _⟩
      have hnA : (netOf n F T G P m L H U V).half lo hi true = (netOf n F T G P m L H U V).fst lo hi true := by
        have : ¬ (netOf n F T G P m L H U V).isA lo hi true = true := by
          unfold Net.isA
          rw [hwt]
          simpa [netOf, frR, toR] using hA1
        unfold Net.half
        rw [if_neg this]
      have q1 := B2.h1
      clear B1 hR1 c1 c2 c3 c4 q0 q2 q3 q4 q5 q1
      have hAf : (lastW F T G (P lo) (P hi) n == U e0) = false := by simpa using hA1
      go_wp2
      clear hA1 hAf
      go_loopw [18] (fun x wr => ∃ v : Nat, v ≤ lo ∧ x = .int .i64 v ∧ (∀ t, t < v → (netOf n F T G P m L H U V).fit lo hi true t = false) ∧ U3 w wr p ao n cap (some ⟨b1, o1, none⟩) k pcap eo m ecap (some ⟨b2, o2, none⟩) ucap (some ⟨b3, o3, none⟩) vcap) (fun x _ => lo - (intOf x).toNat)
      case atStart => exact ⟨0, Nat.zero_le _, rfl, fun t ht => by omega, B2⟩
      case round =>
        clear B2 hR2
        obtain ⟨v, hv, rfl, hno, B2⟩ := hrel
        have HNO : Hid (∀ t, t < v → (netOf n F T G P m L H U V).fit lo hi true t = false) := hno
        clear hno
        by_cases hlt : v < lo
        rotate_left
        · obtain rfl : v = lo := by omega
          have hh : (netOf n F T G P m L H U V).half v hi true = none := by rw [hnA]; exact Net.fst_end HNO.out
          clear ih
          go_wp2
          go_ret
          rw [Net.wy_none hh]
          exact ⟨_, _, rfl, lown_lit2 _ _ _ (by have := B2.bel.size; omega), B2.bel.alloc B2.bel.size _⟩
        have hR2 := hR.below B2.bel (Nat.le_refl _)
        have l7 : (v : Int) < (lo : Int) := by omega
        have q1 := B2.h1
        go_wp2_with fail
        refine (l4Find_net hE eo ecap (v : Int) (lo : Int) hm _ hR2.eds).mono ?_
        rintro e w3 ⟨r1, rfl, hy1, hz1, hb3⟩
        have B3 := B2.next hb3
        have q13 := B3.h1
        have hR3 := hR2.below hb3 (Nat.le_refl _)
        clear B2 hR2 q1
        go_wp2_with fail
        refine (l4Find_net hE eo ecap (v : Int) (hi : Int) hm _ hR3.eds).mono ?_
        rintro e w4 ⟨r2, rfl, hy2, hz2, hb4⟩
        have B4 := B3.next hb4
        have hR4 := hR3.below hb4 (Nat.le_refl _)
        clear B3 hR3 q13
        have hcont : ∀ h : (netOf n F T G P m L H U V).fit lo hi true v = false, ∀ t, t < v + 1 → (netOf n F T G P m L H U V).fit lo hi true t = false := fun h t ht => by
          by_cases e : t = v
          · subst e; exact h
          · exact HNO.out t (by omega)
        cases hs1 : hsB m L H v lo with
        | false =>
          have hlt1 := hz1 hs1
          have hf := hcont (by simp [Net.fit, netOf, frR, toR, hs1])
          clear ih hy1 hy2 hz1 hz2 hcont
          go_wp2
          go_roundw
          case rel => exact ⟨v + 1, by omega, by go_num, hf, B4⟩
          case measure => simp [intOf]; omega
        | true =>
        obtain ⟨rfl, hi0⟩ := hy1 hs1
        have hge1 : ¬ ((fnd L H v lo m : Nat) : Int) < 0 := by omega
        cases hs2 : hsB m L H v hi with
        | false =>
          have hlt2 := hz2 hs2
          have hf := hcont (by simp [Net.fit, netOf, frR, toR, hs2])
          clear ih hy1 hy2 hz1 hz2 hcont
          go_wp2
          go_roundw
          case rel => exact ⟨v + 1, by omega, by go_num, hf, B4⟩
          case measure => simp [intOf]; omega
        | true =>
        obtain ⟨rfl, hk0⟩ := hy2 hs2
        have hge2 : ¬ ((fnd L H v hi m : Nat) : Int) < 0 := by omega
        clear hy1 hy2 hz1 hz2
        have hfit : (netOf n F T G P m L H U V).fit lo hi true v = decide (addF (V (fnd L H v lo m)) (U (fnd L H v hi m)) = U e0) := by simp [Net.fit, netOf, frR, toR, hs1, hs2, Net.wt, he0]
        obtain ⟨i0, hie⟩ : ∃ i0, fnd L H v lo m = i0 := ⟨_, rfl⟩
        obtain ⟨k0, hke⟩ : ∃ k0, fnd L H v hi m = k0 := ⟨_, rfl⟩
        rw [hie] at hi0 hge1 hfit ⊢
        rw [hke] at hk0 hge2 hfit ⊢
        obtain ⟨b4, o4, e4, c3⟩ := hR4.up k0 hk0
        obtain ⟨b5, o5, e5, c4⟩ := hR4.dn i0 hi0
        cases e4
        cases e5
        have q2 := B4.m0
        have q3 := B4.m1
        have l8 : (0 : Int) ≤ (i0 : Int) := by omega
        have l9 : (i0 : Int) < (m : Int) := by omega
        have l10 : (0 : Int) ≤ (k0 : Int) := by omega
        have l11 : (k0 : Int) < (m : Int) := by omega
        go_wp2_with fail
        have hS : (fun w' => w'.cell? ⟨w.heap.size + 1 + 1, 1, none⟩ = some (.slice (some ⟨b3, o3, none⟩) m vcap) ∧ w'.cell? ⟨w.heap.size + 1 + 1, 0, none⟩ = some (.slice (some ⟨b2, o2, none⟩) m ucap) ∧ w'.cell? ⟨b3, o3 + i0, none⟩ = some (.int .i64 (V i0)) ∧ w'.cell? ⟨b2, o2 + k0, none⟩ = some (.int .i64 (U k0))) w4.drew := ⟨q3, q2, c4, c3⟩
        refine wp_region_held_drew (S := fun w' => w'.cell? ⟨w.heap.size + 1 + 1, 1, none⟩ = some (.slice (some ⟨b3, o3, none⟩) m vcap) ∧ w'.cell? ⟨w.heap.size + 1 + 1, 0, none⟩ = some (.slice (some ⟨b2, o2, none⟩) m ucap) ∧ w'.cell? ⟨b3, o3 + i0, none⟩ = some (.int .i64 (V i0)) ∧ w'.cell? ⟨b2, o2 + k0, none⟩ = some (.int .i64 (U k0))) (by kernel_rfl) hS (fun hS => ?_)
        refine takeH 0 (some 82) (.bool true) rfl rfl (by kernel_rfl) (by kernel_rfl) (by kernel_rfl) (fun _ _ _ h => h) (by rfl) hS (fun w hSw => by go_split_ands; go_simp <;> first | omega | (rw [IntKind.wrap_i64]; omega) | (intro h; exfalso; omega)) ?_
        simp only [Act.put, List.setIfInBounds_toArray, List.set_cons_zero, List.set_cons_succ]
        refine takeH 1 (some 83) (.bool true) rfl rfl (by kernel_rfl) (by kernel_rfl) (by kernel_rfl) (fun _ _ _ h => h) (by rfl) hS (fun w hSw => by go_split_ands; go_simp <;> first | omega | (rw [IntKind.wrap_i64]; omega) | (intro h; exfalso; omega)) ?_
        simp only [Act.put, List.setIfInBounds_toArray, List.set_cons_zero, List.set_cons_succ]
        refine takeH 2 (some 84) (.pointer (some ⟨w.heap.size + 1 + 1, 1, none⟩)) rfl rfl (by kernel_rfl) (by kernel_rfl) (by kernel_rfl) (fun _ _ _ h => h) (by rfl) hS (fun w hSw => by go_split_ands; go_simp <;> first | omega | (rw [IntKind.wrap_i64]; omega) | (intro h; exfalso; omega)) ?_
        simp only [Act.put, List.setIfInBounds_toArray, List.set_cons_zero, List.set_cons_succ]
        refine takeH 3 (some 85) (.slice (some ⟨b3, o3, none⟩) m vcap) rfl rfl (by kernel_rfl) (by kernel_rfl) (by kernel_rfl) (fun _ _ _ h => h) (by rfl) hS (fun w hSw => by go_split_ands; go_simp <;> first | omega | (rw [IntKind.wrap_i64]; omega) | (intro h; exfalso; omega)) ?_
        simp only [Act.put, List.setIfInBounds_toArray, List.set_cons_zero, List.set_cons_succ]
        refine takeH 4 (some 86) (.int .i64 (i0 : Int)) rfl rfl (by kernel_rfl) (by kernel_rfl) (by kernel_rfl) (fun _ _ _ h => h) (by rfl) hS (fun w hSw => by go_split_ands; go_simp <;> first | omega | (rw [IntKind.wrap_i64]; omega) | (intro h; exfalso; omega)) ?_
        simp only [Act.put, List.setIfInBounds_toArray, List.set_cons_zero, List.set_cons_succ]
        refine takeH 5 (some 87) (.pointer (some ⟨b3, o3 + i0, none⟩)) rfl rfl (by kernel_rfl) (by kernel_rfl) (by kernel_rfl) (fun _ _ _ h => h) (by rfl) hS (fun w hSw => by go_split_ands; go_simp <;> first | omega | (rw [IntKind.wrap_i64]; omega) | (intro h; exfalso; omega)) ?_
        simp only [Act.put, List.setIfInBounds_toArray, List.set_cons_zero, List.set_cons_succ]
        refine takeH 6 (some 88) (.int .i64 (V i0)) rfl rfl (by kernel_rfl) (by kernel_rfl) (by kernel_rfl) (fun _ _ _ h => h) (by rfl) hS (fun w hSw => by go_split_ands; go_simp <;> first | omega | (rw [IntKind.wrap_i64]; omega) | (intro h; exfalso; omega)) ?_
        simp only [Act.put, List.setIfInBounds_toArray, List.set_cons_zero, List.set_cons_succ]
        refine takeH 7 (some 89) (.pointer (some ⟨w.heap.size + 1 + 1, 0, none⟩)) rfl rfl (by kernel_rfl) (by kernel_rfl) (by kernel_rfl) (fun _ _ _ h => h) (by rfl) hS (fun w hSw => by go_split_ands; go_simp <;> first | omega | (rw [IntKind.wrap_i64]; omega) | (intro h; exfalso; omega)) ?_
        simp only [Act.put, List.setIfInBounds_toArray, List.set_cons_zero, List.set_cons_succ]
        refine takeH 8 (some 90) (.slice (some ⟨b2, o2, none⟩) m ucap) rfl rfl (by kernel_rfl) (by kernel_rfl) (by kernel_rfl) (fun _ _ _ h => h) (by rfl) hS (fun w hSw => by go_split_ands; go_simp <;> first | omega | (rw [IntKind.wrap_i64]; omega) | (intro h; exfalso; omega)) ?_
        simp only [Act.put, List.setIfInBounds_toArray, List.set_cons_zero, List.set_cons_succ]
        refine takeH 9 (some 91) (.int .i64 (k0 : Int)) rfl rfl (by kernel_rfl) (by kernel_rfl) (by kernel_rfl) (fun _ _ _ h => h) (by rfl) hS (fun w hSw => by go_split_ands; go_simp <;> first | omega | (rw [IntKind.wrap_i64]; omega) | (intro h; exfalso; omega)) ?_
        simp only [Act.put, List.setIfInBounds_toArray, List.set_cons_zero, List.set_cons_succ]
        refine takeH 10 (some 92) (.pointer (some ⟨b2, o2 + k0, none⟩)) rfl rfl (by kernel_rfl) (by kernel_rfl) (by kernel_rfl) (fun _ _ _ h => h) (by rfl) hS (fun w hSw => by go_split_ands; go_simp <;> first | omega | (rw [IntKind.wrap_i64]; omega) | (intro h; exfalso; omega)) ?_
        simp only [Act.put, List.setIfInBounds_toArray, List.set_cons_zero, List.set_cons_succ]
        refine takeH 11 (some 93) (.int .i64 (U k0)) rfl rfl (by kernel_rfl) (by kernel_rfl) (by kernel_rfl) (fun _ _ _ h => h) (by rfl) hS (fun w hSw => by go_split_ands; go_simp <;> first | omega | (rw [IntKind.wrap_i64]; omega) | (intro h; exfalso; omega)) ?_
        simp only [Act.put, List.setIfInBounds_toArray, List.set_cons_zero, List.set_cons_succ]
        refine takeH 13 (some 95) (.int .i64 (U e0)) rfl rfl (by kernel_rfl) (by kernel_rfl) (by kernel_rfl) (fun _ _ _ h => h) (by rfl) hS (fun w hSw => by go_split_ands; go_simp <;> first | omega | (rw [IntKind.wrap_i64]; omega) | (intro h; exfalso; omega)) ?_
        simp only [Act.put, List.setIfInBounds_toArray, List.set_cons_zero, List.set_cons_succ]
        refine step1H 12 _ rfl (by kernel_rfl) (by rfl) ?_
        go_simp
        refine (l1Add_any (V i0) (U k0) (hV _ hi0).1 (hV _ hi0).2 (hU _ hk0).1 (hU _ hk0).2 _).mono ?_
        rintro e w5 ⟨rfl, rfl⟩
        refine ⟨hS, ?_⟩
        by_cases hq : addF (V i0) (U k0) = U e0
        · have hqq : (min 1000000000000 (V i0 + U k0) == U e0) = true := by simpa [addF] using hq
          refine takeH 14 (some 96) (.bool true) rfl rfl (by kernel_rfl) (by kernel_rfl) (by kernel_rfl) (fun _ _ _ h => h) (by rfl) hS (fun w hSw => by go_split_ands; go_simp <;> first | omega | (rw [IntKind.wrap_i64]; omega) | (intro h; exfalso; omega)) ?_
          simp only [Act.put, List.setIfInBounds_toArray, List.set_cons_zero, List.set_cons_succ]
          refine takeH 15 (some 97) (.bool true) rfl rfl (by kernel_rfl) (by kernel_rfl) (by kernel_rfl) (fun _ _ _ h => h) (by rfl) hS (fun w hSw => by go_split_ands; go_simp <;> first | omega | (rw [IntKind.wrap_i64]; omega) | (intro h; exfalso; omega)) ?_
          simp only [Act.put, List.setIfInBounds_toArray, List.set_cons_zero, List.set_cons_succ]
          refine takeH 16 (some 81) (.bool true) rfl rfl (by kernel_rfl) (by kernel_rfl) (by kernel_rfl) (fun _ _ _ h => h) (by rfl) hS (fun w hSw => by go_split_ands; go_simp <;> first | omega | (rw [IntKind.wrap_i64]; omega) | (intro h; exfalso; omega)) ?_
          simp only [Act.put, List.setIfInBounds_toArray, List.set_cons_zero, List.set_cons_succ]
          refine wpAnyH_done (by kernel_rfl) ?_ _
          go_wp2_with fail
          have B5 := (B4.next (Below.refl _ _).drew).next (Below.refl _ _).drew
          refine wp_region_held_drew (S := fun w' => U3 w w' p ao n cap (some ⟨b1, o1, none⟩) k pcap eo m ecap (some ⟨b2, o2, none⟩) ucap (some ⟨b3, o3, none⟩) vcap) (by kernel_rfl) B5 (fun hS3 => ?_)
          refine takeH 0 (some 98) (.agg #[.int .i64 p, .slice ao n cap]) rfl rfl (by kernel_rfl) (by kernel_rfl) (by kernel_rfl) (fun _ _ _ h => h) (by rfl) hS3 (fun w' hSw => by have y0 := hSw.g0; have y1 := hSw.g1; have y2 := hSw.h0; have y3 := hSw.h1; have y4 := hSw.m0; have y5 := hSw.m1; go_simp) ?_
          simp only [Act.put, List.setIfInBounds_toArray, List.set_cons_zero, List.set_cons_succ]
          refine takeH 1 (some 99) (.agg #[.slice (some ⟨b1, o1, none⟩) k pcap, .slice eo m ecap]) rfl rfl (by kernel_rfl) (by kernel_rfl) (by kernel_rfl) (fun _ _ _ h => h) (by rfl) hS3 (fun w' hSw => by have y0 := hSw.g0; have y1 := hSw.g1; have y2 := hSw.h0; have y3 := hSw.h1; have y4 := hSw.m0; have y5 := hSw.m1; go_simp) ?_
          simp only [Act.put, List.setIfInBounds_toArray, List.set_cons_zero, List.set_cons_succ]
          refine takeH 2 (some 100) (.agg #[.slice (some ⟨b2, o2, none⟩) m ucap, .slice (some ⟨b3, o3, none⟩) m vcap]) rfl rfl (by kernel_rfl) (by kernel_rfl) (by kernel_rfl) (fun _ _ _ h => h) (by rfl) hS3 (fun w' hSw => by have y0 := hSw.g0; have y1 := hSw.g1; have y2 := hSw.h0; have y3 := hSw.h1; have y4 := hSw.m0; have y5 := hSw.m1; go_simp) ?_
          simp only [Act.put, List.setIfInBounds_toArray, List.set_cons_zero, List.set_cons_succ]
          refine takeH 3 (some 101) (.int .i64 (v : Int)) rfl rfl (by kernel_rfl) (by kernel_rfl) (by kernel_rfl) (fun _ _ _ h => h) (by rfl) hS3 (fun w' hSw => by have y0 := hSw.g0; have y1 := hSw.g1; have y2 := hSw.h0; have y3 := hSw.h1; have y4 := hSw.m0; have y5 := hSw.m1; go_simp) ?_
          simp only [Act.put, List.setIfInBounds_toArray, List.set_cons_zero, List.set_cons_succ]
          refine takeH 4 (some 102) (.int .i64 (lo : Int)) rfl rfl (by kernel_rfl) (by kernel_rfl) (by kernel_rfl) (fun _ _ _ h => h) (by rfl) hS3 (fun w' hSw => by have y0 := hSw.g0; have y1 := hSw.g1; have y2 := hSw.h0; have y3 := hSw.h1; have y4 := hSw.m0; have y5 := hSw.m1; go_simp) ?_
          simp only [Act.put, List.setIfInBounds_toArray, List.set_cons_zero, List.set_cons_succ]
          refine takeH 6 (some 104) (.agg #[.int .i64 p, .slice ao n cap]) rfl rfl (by kernel_rfl) (by kernel_rfl) (by kernel_rfl) (fun _ _ _ h => h) (by rfl) hS3 (fun w' hSw => by have y0 := hSw.g0; have y1 := hSw.g1; have y2 := hSw.h0; have y3 := hSw.h1; have y4 := hSw.m0; have y5 := hSw.m1; go_simp) ?_
          simp only [Act.put, List.setIfInBounds_toArray, List.set_cons_zero, List.set_cons_succ]
          refine takeH 7 (some 105) (.agg #[.slice (some ⟨b1, o1, none⟩) k pcap, .slice eo m ecap]) rfl rfl (by kernel_rfl) (by kernel_rfl) (by kernel_rfl) (fun _ _ _ h => h) (by rfl) hS3 (fun w' hSw => by have y0 := hSw.g0; have y1 := hSw.g1; have y2 := hSw.h0; have y3 := hSw.h1; have y4 := hSw.m0; have y5 := hSw.m1; go_simp) ?_
          simp only [Act.put, List.setIfInBounds_toArray, List.set_cons_zero, List.set_cons_succ]
          refine takeH 8 (some 106) (.agg #[.slice (some ⟨b2, o2, none⟩) m ucap, .slice (some ⟨b3, o3, none⟩) m vcap]) rfl rfl (by kernel_rfl) (by kernel_rfl) (by kernel_rfl) (fun _ _ _ h => h) (by rfl) hS3 (fun w' hSw => by have y0 := hSw.g0; have y1 := hSw.g1; have y2 := hSw.h0; have y3 := hSw.h1; have y4 := hSw.m0; have y5 := hSw.m1; go_simp) ?_
          simp only [Act.put, List.setIfInBounds_toArray, List.set_cons_zero, List.set_cons_succ]
          refine takeH 9 (some 107) (.int .i64 (v : Int)) rfl rfl (by kernel_rfl) (by kernel_rfl) (by kernel_rfl) (fun _ _ _ h => h) (by rfl) hS3 (fun w' hSw => by have y0 := hSw.g0; have y1 := hSw.g1; have y2 := hSw.h0; have y3 := hSw.h1; have y4 := hSw.m0; have y5 := hSw.m1; go_simp) ?_
          simp only [Act.put, List.setIfInBounds_toArray, List.set_cons_zero, List.set_cons_succ]
          refine takeH 10 (some 108) (.int .i64 (hi : Int)) rfl rfl (by kernel_rfl) (by kernel_rfl) (by kernel_rfl) (fun _ _ _ h => h) (by rfl) hS3 (fun w' hSw => by have y0 := hSw.g0; have y1 := hSw.g1; have y2 := hSw.h0; have y3 := hSw.h1; have y4 := hSw.m0; have y5 := hSw.m1; go_simp) ?_
          simp only [Act.put, List.setIfInBounds_toArray, List.set_cons_zero, List.set_cons_succ]
          have hR5 := hR.below B5.bel (Nat.le_refl _)
          have hsz5 := B5.sz
          have hbl5 := B5.bel
          generalize w4.drew.drew = x0 at B5 hS3 hR5 hsz5 hbl5 ⊢
          refine step1H 5 _ rfl (by kernel_rfl) (by rfl) ?_
          go_simp
          refine (ih v hlt lo false _ hR5 hs1 (by omega) (by omega) (by omega)).mono ?_
          rintro e x1 ⟨g1, cc1, rfl, hL1, hb1⟩
          have B6 := B5.next hb1
          have hR6 := hR5.below hb1 (Nat.le_refl _)
          refine ⟨B6, ?_⟩
          refine step1H 11 _ rfl (by kernel_rfl) (by rfl) ?_
          go_simp
          refine (ih v hlt hi true _ hR6 hs2 (by omega) (by omega) (by omega)).mono ?_
          rintro e x2 ⟨g2, cc2, rfl, hL2, hb2⟩
          have B7 := B6.next hb2
          refine ⟨B7, ?_⟩
          have hy := Net.wy_some (hnA.trans (Net.fst_step hlt HNO.out (hfit.trans (by simpa using hq))))
          have z1 := (netOf n F T G P m L H U V).wy_len v lo false
          have z2 := (netOf n F T G P m L H U V).wy_len v hi true
          have zp : 2 ^ v ≤ 2 ^ 29 := Nat.pow_le_pow_right (by omega) (by omega)
          simp only [frR, toR, if_true, if_false, Bool.false_eq_true] at hy hL1 hL2 ⊢
          clear ih
          generalize (netOf n F T G P m L H U V).wy v lo false = y1 at hL1 z1 hy ⊢
          generalize (netOf n F T G P m L H U V).wy v hi true = y2 at hL2 z2 hy ⊢
          have hcp : y2.length + 1 ≤ cc2 := by have := hL2.cap; simpa using this
          obtain ⟨g2', e2', hg2, _, hc2⟩ := hL2.cells (by simp)
          cases e2'
          obtain ⟨g1', e1'', hg1, _, _⟩ := hL1.cells (by simp)
          cases e1''
          have u1 : (1 : Int) ≤ (y2.length : Int) + 1 := by omega
          have u2 : ¬ cc2 = 1 := by omega
          have hL1' := (hL1.from (base' := w.heap.size + 3) hsz5).next hb2
          refine takeH 12 (some 110) (.slice (some ⟨g2, 1, none⟩) y2.length (cc2 - 1)) rfl rfl (by kernel_rfl) (by kernel_rfl) (by kernel_rfl) (fun _ _ _ h => h) (by rfl) B7 (fun w' hSw => by go_simp) ?_
          simp only [Act.put, List.setIfInBounds_toArray, List.set_cons_zero, List.set_cons_succ]
          refine step1H 13 _ rfl (by kernel_rfl) (by rfl) ?_
          refine wp_appL (.tmp 103) (.tmp 110) rfl 111 rfl (w.heap.size + 3) cc1 (some ⟨g1, 0, none⟩) _ y2 rfl hL1' g2 1 y2.length (cc2 - 1) rfl rfl (fun j u hu => by have := hc2 (j + 1) u (by simpa using hu); rw [Nat.add_comm]; exact this) (by omega) (by simp; omega) (by omega) (by have := B7.sz; omega) ?_
          intro g3 cc3 x3 hown hgr _
          have hgr' : x2.grownBy x3 (some g1) := hgr
          have hfar := gr_below hgr' (B := w.heap.size + 3) (Nat.le_trans hsz5 hg1) (by have := B7.sz; omega)
          have B8 := B7.far hfar
          refine ⟨B8, ?_⟩
          simp only [Act.put, List.setIfInBounds_toArray, List.set_cons_zero, List.set_cons_succ]
          refine takeH 14 (some 12) (.slice (some ⟨g3, 0, none⟩) (y1.length + 1 + y2.length) cc3) rfl rfl (by kernel_rfl) (by kernel_rfl) (by kernel_rfl) (fun _ _ _ h => h) (by rfl) B8 (fun w' hSw => by go_simp) ?_
          simp only [Act.put, List.setIfInBounds_toArray, List.set_cons_zero, List.set_cons_succ]
          refine wpAnyH_done (by kernel_rfl) ?_ _
          go_wp2
          go_ret
          rw [hy]
          refine ⟨g3, cc3, by simp [Nat.add_assoc, Nat.add_comm, Nat.add_left_comm], ?_, B8.bel⟩
          have := hown.from (base' := w.heap.size) (by omega)
          simpa [frR] using this
        · have hqq : (min 1000000000000 (V i0 + U k0) == U e0) = false := by simpa [addF] using hq
          refine takeH 14 (some 96) (.bool false) rfl rfl (by kernel_rfl) (by kernel_rfl) (by kernel_rfl) (fun _ _ _ h => h) (by rfl) hS (fun w hSw => by go_split_ands; go_simp <;> first | omega | (rw [IntKind.wrap_i64]; omega) | (intro h; exfalso; omega)) ?_
          simp only [Act.put, List.setIfInBounds_toArray, List.set_cons_zero, List.set_cons_succ]
          refine takeH 15 (some 97) (.bool false) rfl rfl (by kernel_rfl) (by kernel_rfl) (by kernel_rfl) (fun _ _ _ h => h) (by rfl) hS (fun w hSw => by go_split_ands; go_simp <;> first | omega | (rw [IntKind.wrap_i64]; omega) | (intro h; exfalso; omega)) ?_
          simp only [Act.put, List.setIfInBounds_toArray, List.set_cons_zero, List.set_cons_succ]
          refine takeH 16 (some 81) (.bool false) rfl rfl (by kernel_rfl) (by kernel_rfl) (by kernel_rfl) (fun _ _ _ h => h) (by rfl) hS (fun w hSw => by go_split_ands; go_simp <;> first | omega | (rw [IntKind.wrap_i64]; omega) | (intro h; exfalso; omega)) ?_
          simp only [Act.put, List.setIfInBounds_toArray, List.set_cons_zero, List.set_cons_succ]
          refine wpAnyH_done (by kernel_rfl) ?_ _
          go_wp2_with fail
          have hS2 : (fun w' => w'.cell? ⟨w.heap.size + 1 + 1, 1, none⟩ = some (.slice (some ⟨b3, o3, none⟩) m vcap) ∧ w'.cell? ⟨w.heap.size + 1 + 1, 0, none⟩ = some (.slice (some ⟨b2, o2, none⟩) m ucap) ∧ w'.cell? ⟨b3, o3 + i0, none⟩ = some (.int .i64 (V i0)) ∧ w'.cell? ⟨b2, o2 + k0, none⟩ = some (.int .i64 (U k0))) w4.drew.drew := hS
          refine wp_region_held_drew (S := fun w' => w'.cell? ⟨w.heap.size + 1 + 1, 1, none⟩ = some (.slice (some ⟨b3, o3, none⟩) m vcap) ∧ w'.cell? ⟨w.heap.size + 1 + 1, 0, none⟩ = some (.slice (some ⟨b2, o2, none⟩) m ucap) ∧ w'.cell? ⟨b3, o3 + i0, none⟩ = some (.int .i64 (V i0)) ∧ w'.cell? ⟨b2, o2 + k0, none⟩ = some (.int .i64 (U k0))) (by kernel_rfl) hS2 (fun hS2 => ?_)
          refine takeH 0 (some 113) (.bool true) rfl rfl (by kernel_rfl) (by kernel_rfl) (by kernel_rfl) (fun _ _ _ h => h) (by rfl) hS2 (fun w hSw => by go_split_ands; go_simp <;> first | omega | (rw [IntKind.wrap_i64]; omega) | (intro h; exfalso; omega)) ?_
          simp only [Act.put, List.setIfInBounds_toArray, List.set_cons_zero, List.set_cons_succ]
          refine takeH 1 (some 114) (.bool false) rfl rfl (by kernel_rfl) (by kernel_rfl) (by kernel_rfl) (fun _ _ _ h => h) (by rfl) hS2 (fun w hSw => by go_split_ands; go_simp <;> first | omega | (rw [IntKind.wrap_i64]; omega) | (intro h; exfalso; omega)) ?_
          simp only [Act.put, List.setIfInBounds_toArray, List.set_cons_zero, List.set_cons_succ]
          refine takeH 2 (some 115) (.bool false) rfl rfl (by kernel_rfl) (by kernel_rfl) (by kernel_rfl) (fun _ _ _ h => h) (by rfl) hS2 (fun w hSw => by go_split_ands; go_simp <;> first | omega | (rw [IntKind.wrap_i64]; omega) | (intro h; exfalso; omega)) ?_
          simp only [Act.put, List.setIfInBounds_toArray, List.set_cons_zero, List.set_cons_succ]
          refine skipH 3 (some 116) rfl rfl (by kernel_rfl) (by kernel_rfl) (by kernel_rfl) (fun _ _ _ h => h) (by rfl) hS2 ?_
          simp only [Act.put, List.setIfInBounds_toArray, List.set_cons_zero, List.set_cons_succ]
          refine skipH 4 (some 117) rfl rfl (by kernel_rfl) (by kernel_rfl) (by kernel_rfl) (fun _ _ _ h => h) (by rfl) hS2 ?_
          simp only [Act.put, List.setIfInBounds_toArray, List.set_cons_zero, List.set_cons_succ]
          refine skipH 5 (some 118) rfl rfl (by kernel_rfl) (by kernel_rfl) (by kernel_rfl) (fun _ _ _ h => h) (by rfl) hS2 ?_
          simp only [Act.put, List.setIfInBounds_toArray, List.set_cons_zero, List.set_cons_succ]
          refine skipH 6 (some 119) rfl rfl (by kernel_rfl) (by kernel_rfl) (by kernel_rfl) (fun _ _ _ h => h) (by rfl) hS2 ?_
          simp only [Act.put, List.setIfInBounds_toArray, List.set_cons_zero, List.set_cons_succ]
          refine skipH 7 (some 120) rfl rfl (by kernel_rfl) (by kernel_rfl) (by kernel_rfl) (fun _ _ _ h => h) (by rfl) hS2 ?_
          simp only [Act.put, List.setIfInBounds_toArray, List.set_cons_zero, List.set_cons_succ]
          refine skipH 8 (some 121) rfl rfl (by kernel_rfl) (by kernel_rfl) (by kernel_rfl) (fun _ _ _ h => h) (by rfl) hS2 ?_
          simp only [Act.put, List.setIfInBounds_toArray, List.set_cons_zero, List.set_cons_succ]
          refine skipH 9 (some 122) rfl rfl (by kernel_rfl) (by kernel_rfl) (by kernel_rfl) (fun _ _ _ h => h) (by rfl) hS2 ?_
          simp only [Act.put, List.setIfInBounds_toArray, List.set_cons_zero, List.set_cons_succ]
          refine skipH 10 (some 123) rfl rfl (by kernel_rfl) (by kernel_rfl) (by kernel_rfl) (fun _ _ _ h => h) (by rfl) hS2 ?_
          simp only [Act.put, List.setIfInBounds_toArray, List.set_cons_zero, List.set_cons_succ]
          refine skipH 11 (some 124) rfl rfl (by kernel_rfl) (by kernel_rfl) (by kernel_rfl) (fun _ _ _ h => h) (by rfl) hS2 ?_
          simp only [Act.put, List.setIfInBounds_toArray, List.set_cons_zero, List.set_cons_succ]
          refine skipH 12 (some 125) rfl rfl (by kernel_rfl) (by kernel_rfl) (by kernel_rfl) (fun _ _ _ h => h) (by rfl) hS2 ?_
          simp only [Act.put, List.setIfInBounds_toArray, List.set_cons_zero, List.set_cons_succ]
          refine skipH 13 (some 126) rfl rfl (by kernel_rfl) (by kernel_rfl) (by kernel_rfl) (fun _ _ _ h => h) (by rfl) hS2 ?_
          simp only [Act.put, List.setIfInBounds_toArray, List.set_cons_zero, List.set_cons_succ]
          refine skipH 14 (some 127) rfl rfl (by kernel_rfl) (by kernel_rfl) (by kernel_rfl) (fun _ _ _ h => h) (by rfl) hS2 ?_
          simp only [Act.put, List.setIfInBounds_toArray, List.set_cons_zero, List.set_cons_succ]
          refine skipH 15 (some 128) rfl rfl (by kernel_rfl) (by kernel_rfl) (by kernel_rfl) (fun _ _ _ h => h) (by rfl) hS2 ?_
          simp only [Act.put, List.setIfInBounds_toArray, List.set_cons_zero, List.set_cons_succ]
          refine takeH 16 (some 129) (.bool false) rfl rfl (by kernel_rfl) (by kernel_rfl) (by kernel_rfl) (fun _ _ _ h => h) (by rfl) hS2 (fun w hSw => by go_split_ands; go_simp <;> first | omega | (rw [IntKind.wrap_i64]; omega) | (intro h; exfalso; omega)) ?_
          simp only [Act.put, List.setIfInBounds_toArray, List.set_cons_zero, List.set_cons_succ]
          refine takeH 17 (some 112) (.bool false) rfl rfl (by kernel_rfl) (by kernel_rfl) (by kernel_rfl) (fun _ _ _ h => h) (by rfl) hS2 (fun w hSw => by go_split_ands; go_simp <;> first | omega | (rw [IntKind.wrap_i64]; omega) | (intro h; exfalso; omega)) ?_
          simp only [Act.put, List.setIfInBounds_toArray, List.set_cons_zero, List.set_cons_succ]
          refine wpAnyH_done (by kernel_rfl) ?_ _
          have hf := hcont (by rw [hfit]; simpa using hq)
          clear ih hcont
          go_wp2
          go_roundw
          case rel => exact ⟨v + 1, by omega, by go_num, hf, (B4.next (Below.refl _ _).drew).next (Below.refl _ _).drew⟩
          case measure => simp [intOf]; omega

end Go.Proofs.YtokaechbmnbbiabGreat
