/-
  Helpers, merged: UnT, RecS, RecL, UnO.
-/
import Derived.Test.YtjabllghohapgahPack2
import Derived.Test.YtjabllghohapgahPack6
import Derived.Deep.QuietTactic
import Derived.Test.YtjabllghohapgahPack8
import Derived.Test.YtjabllghohapgahPack9
import Derived.Test.YtjabllghohapgahPack12
/-
  The document's l7Unpack: the way of an edge by halves.
-/
set_option linter.unusedVariables false
set_option linter.unusedSimpArgs false
namespace Go.Proofs.Ytjabllghohapgah
open Go.RowKit
attribute [local go_sem ↓] Go.wp_at_zero Go.wp_at_succ

theorem U3.far {w W W' : World} {p : Int} {ao : Option Addr} {n cap : Nat} {po : Option Addr} {k pcap : Nat} {eo : Option Addr} {m ecap : Nat} {uo : Option Addr} {ucap : Nat} {vo : Option Addr} {vcap : Nat} (h : U3 w W p ao n cap po k pcap eo m ecap uo ucap vo vcap) (hb : Below (w.heap.size + 3) W W') : U3 w W' p ao n cap po k pcap eo m ecap uo ucap vo vcap :=
  ⟨h.bel.trans (hb.mono (by omega)), by rw [hb.cell (by simp)]; exact h.g0, by rw [hb.cell (by simp)]; exact h.g1, by rw [hb.cell (by simp)]; exact h.h0, by rw [hb.cell (by simp)]; exact h.h1, by rw [hb.cell (by simp)]; exact h.m0, by rw [hb.cell (by simp)]; exact h.m1, Nat.le_trans h.sz hb.size⟩
set_option maxRecDepth 100000 in
set_option maxHeartbeats 4000000 in
theorem l7Unpack_any (p : Int) (ao : Option Addr) (n cap : Nat) (F T G : Nat → Int) (po : Option Addr) (k pcap : Nat) (P : Nat → Int) (eo : Option Addr) (m ecap : Nat) (L H : Nat → Int) (uo : Option Addr) (ucap : Nat) (U : Nat → Int) (vo : Option Addr) (vcap : Nat) (V : Nat → Int) (hn : n ≤ 1048576) (hk : k ≤ 1048576) (hm : m ≤ 1048576) (q : Int) (hE : edB q L H m = true) (hA : arcsB p F T G n = true) (hU : ∀ j, j < m → 0 ≤ U j ∧ U j ≤ 1000000000000) (hV : ∀ j, j < m → 0 ≤ V j ∧ V j ≤ 1000000000000) :
    ∀ (lo hi : Nat) (up : Bool) (w : World), NRows w ao n F T G po k P eo m L H uo U vo V → hsB m L H lo hi = true → lo < hi → hi < k → lo ≤ 29 →
      Calls Try.prog 80 #[.agg #[.int .i64 p, .slice ao n cap], .agg #[.slice po k pcap, .slice eo m ecap], .agg #[.slice uo m ucap, .slice vo m vcap], .int .i64 lo, .int .i64 hi, .bool up] w fun e w' =>
        ∃ g c, e = .returned (.slice (some ⟨g, 0, none⟩) (((netOf n F T G P m L H U V).wy lo hi up).length + 1) c) ∧ LOwn w' w.heap.size (some ⟨g, 0, none⟩) c (P (frR lo hi up) :: (netOf n F T G P m L H U V).wy lo hi up) ∧ Below w.heap.size w w' := by
  intro lo
  induction lo using Nat.strongRecOn with
  | ind lo ih =>
    intro hi up w hR hs hlh hhk h29
    have B0 := u3_new w (p := p) (ao := ao) (n := n) (cap := cap) (po := po) (k := k) (pcap := pcap) (eo := eo) (m := m) (ecap := ecap) (uo := uo) (ucap := ucap) (vo := vo) (vcap := vcap)
    go_enter Try.func80, Try.ntmps80
    have hR0 := hR.below B0.bel (Nat.le_refl _)
    have q1 := B0.h1
    go_wp2_with fail
    generalize (((w.alloc (.cells #[.int .i64 p, .slice ao n cap] 47)).alloc (.cells #[.slice po k pcap, .slice eo m ecap] 33)).alloc (.cells #[.slice uo m ucap, .slice vo m vcap] 35)) = W at B0 hR0 q1 ⊢
    refine (l4Find_net hE eo ecap (lo : Int) (hi : Int) hm _ hR0.eds).mono ?_
    rintro e w1 ⟨r, rfl, hr1, _, hb1⟩
    obtain ⟨rfl, hfm⟩ := hr1 hs
    have B1 := B0.next hb1
    have hR1 := hR0.below hb1 (Nat.le_refl _)
    clear B0 hR0 q1
    obtain ⟨e0, he0⟩ : ∃ e0, fnd L H lo hi m = e0 := ⟨_, rfl⟩
    rw [he0] at hfm ⊢
    obtain ⟨b1, o1, rfl, c1⟩ := hR1.ord lo (by omega)
    obtain ⟨b1', o1', e1', c2⟩ := hR1.ord hi (by omega)
    cases e1'
    obtain ⟨b2, o2, rfl, c3⟩ := hR1.up e0 hfm
    obtain ⟨b3, o3, rfl, c4⟩ := hR1.dn e0 hfm
    have q0 := B1.h0
    have q2 := B1.m0
    have q3 := B1.m1
    have q4 := B1.g0
    have q5 := B1.g1
    have l1 : (0 : Int) ≤ (lo : Int) := by omega
    have l2 : (lo : Int) < (k : Int) := by omega
    have l3 : (0 : Int) ≤ (hi : Int) := by omega
    have l4 : (hi : Int) < (k : Int) := by omega
    have l5 : (0 : Int) ≤ (e0 : Int) := by omega
    have l6 : (e0 : Int) < (m : Int) := by omega
    cases up
    · go_wp2_with fail
      refine (l1Weight_any p ao n cap F T G (P hi) (P lo) hn hA _ hR1.arcs).mono ?_
      rintro e w2 ⟨rfl, hb2⟩
      have B2 := B1.next hb2
      have hR2 := hR1.below hb2 (Nat.le_refl _)
      have hwt : (netOf n F T G P m L H U V).wt lo hi false = V e0 := by simp [Net.wt, netOf, he0]
      by_cases hA1 : lastW F T G (P hi) (P lo) n = V e0
      · have hh : (netOf n F T G P m L H U V).half lo hi false = none := by
          have : (netOf n F T G P m L H U V).isA lo hi false = true := by
            unfold Net.isA
            rw [hwt]
            simpa [netOf, frR, toR] using hA1
          unfold Net.half
          rw [if_pos this]
        clear ih
        go_wp2
        go_ret
        rw [Net.wy_none hh]
        exact ⟨_, _, rfl, lown_lit2 _ _ _ (by have := B2.bel.size; omega), B2.bel.alloc B2.bel.size _⟩
      have hnA : (netOf n F T G P m L H U V).half lo hi false = (netOf n F T G P m L H U V).fst lo hi false := by
        have : ¬ (netOf n F T G P m L H U V).isA lo hi false = true := by
          unfold Net.isA
          rw [hwt]
          simpa [netOf, frR, toR] using hA1
        unfold Net.half
        rw [if_neg this]
      have q1 := B2.h1
      clear B1 hR1 c1 c2 c3 c4 q0 q2 q3 q4 q5 q1
      have hAf : (lastW F T G (P hi) (P lo) n == V e0) = false := by simpa using hA1
      go_wp2
      clear hA1 hAf
      go_loopw [18] (fun x wr => ∃ v : Nat, v ≤ lo ∧ x = .int .i64 v ∧ (∀ t, t < v → (netOf n F T G P m L H U V).fit lo hi false t = false) ∧ U3 w wr p ao n cap (some ⟨b1, o1, none⟩) k pcap eo m ecap (some ⟨b2, o2, none⟩) ucap (some ⟨b3, o3, none⟩) vcap) (fun x _ => lo - (intOf x).toNat)
      case atStart => exact ⟨0, Nat.zero_le _, rfl, fun t ht => by omega, B2⟩
      case round =>
        clear B2 hR2
        obtain ⟨v, hv, rfl, hno, B2⟩ := hrel
        have HNO : Hid (∀ t, t < v → (netOf n F T G P m L H U V).fit lo hi false t = false) := hno
        clear hno
        by_cases hlt : v < lo
        rotate_left
        · obtain rfl : v = lo := by omega
          have hh : (netOf n F T G P m L H U V).half v hi false = none := by rw [hnA]; exact Net.fst_end HNO.out
          clear ih
          go_wp2
          go_ret
          rw [Net.wy_none hh]
          exact ⟨_, _, rfl, lown_lit2 _ _ _ (by have := B2.bel.size; omega), B2.bel.alloc B2.bel.size _⟩
        have hR2 := hR.below B2.bel (Nat.le_refl _)
        have l7 : (v : Int) < (lo : Int) := by omega
        have q1 := B2.h1
        go_wp2_with fail
        refine (l4Find_net hE eo ecap (v : Int) (lo : Int) hm _ hR2.eds).mono ?_
        rintro e w3 ⟨r1, rfl, hy1, hz1, hb3⟩
        have B3 := B2.next hb3
        have q13 := B3.h1
        have hR3 := hR2.below hb3 (Nat.le_refl _)
        clear B2 hR2 q1
        go_wp2_with fail
        refine (l4Find_net hE eo ecap (v : Int) (hi : Int) hm _ hR3.eds).mono ?_
        rintro e w4 ⟨r2, rfl, hy2, hz2, hb4⟩
        have B4 := B3.next hb4
        have hR4 := hR3.below hb4 (Nat.le_refl _)
        clear B3 hR3 q13
        have hcont : ∀ h : (netOf n F T G P m L H U V).fit lo hi false v = false, ∀ t, t < v + 1 → (netOf n F T G P m L H U V).fit lo hi false t = false := fun h t ht => by
          by_cases e : t = v
          · subst e; exact h
          · exact HNO.out t (by omega)
        cases hs1 : hsB m L H v lo with
        | false =>
          have hlt1 := hz1 hs1
          have hf := hcont (by simp [Net.fit, netOf, frR, toR, hs1])
          clear ih hy1 hy2 hz1 hz2 hcont
          go_wp2
          go_roundw
          case rel => exact ⟨v + 1, by omega, by go_num, hf, B4⟩
          case measure => simp [intOf]; omega
        | true =>
        obtain ⟨rfl, hi0⟩ := hy1 hs1
        have hge1 : ¬ ((fnd L H v lo m : Nat) : Int) < 0 := by omega
        cases hs2 : hsB m L H v hi with
        | false =>
          have hlt2 := hz2 hs2
          have hf := hcont (by simp [Net.fit, netOf, frR, toR, hs2])
          clear ih hy1 hy2 hz1 hz2 hcont
          go_wp2
          go_roundw
          case rel => exact ⟨v + 1, by omega, by go_num, hf, B4⟩
          case measure => simp [intOf]; omega
        | true =>
        obtain ⟨rfl, hk0⟩ := hy2 hs2
        have hge2 : ¬ ((fnd L H v hi m : Nat) : Int) < 0 := by omega
        clear hy1 hy2 hz1 hz2
        have hfit : (netOf n F T G P m L H U V).fit lo hi false v = decide (addF (V (fnd L H v hi m)) (U (fnd L H v lo m)) = V e0) := by simp [Net.fit, netOf, frR, toR, hs1, hs2, Net.wt, he0]
        obtain ⟨i0, hie⟩ : ∃ i0, fnd L H v lo m = i0 := ⟨_, rfl⟩
        obtain ⟨k0, hke⟩ : ∃ k0, fnd L H v hi m = k0 := ⟨_, rfl⟩
        rw [hie] at hi0 hge1 hfit ⊢
        rw [hke] at hk0 hge2 hfit ⊢
        obtain ⟨b4, o4, e4, c3⟩ := hR4.up i0 hi0
        obtain ⟨b5, o5, e5, c4⟩ := hR4.dn k0 hk0
        cases e4
        cases e5
        have q2 := B4.m0
        have q3 := B4.m1
        have l8 : (0 : Int) ≤ (i0 : Int) := by omega
        have l9 : (i0 : Int) < (m : Int) := by omega
        have l10 : (0 : Int) ≤ (k0 : Int) := by omega
        have l11 : (k0 : Int) < (m : Int) := by omega
        go_wp2_with fail
        have hS : (fun w' => w'.cell? ⟨w.heap.size + 1 + 1, 1, none⟩ = some (.slice (some ⟨b3, o3, none⟩) m vcap) ∧ w'.cell? ⟨w.heap.size + 1 + 1, 0, none⟩ = some (.slice (some ⟨b2, o2, none⟩) m ucap) ∧ w'.cell? ⟨b3, o3 + k0, none⟩ = some (.int .i64 (V k0)) ∧ w'.cell? ⟨b2, o2 + i0, none⟩ = some (.int .i64 (U i0))) w4.drew := ⟨q3, q2, c4, c3⟩
        refine wp_region_held_drew (S := fun w' => w'.cell? ⟨w.heap.size + 1 + 1, 1, none⟩ = some (.slice (some ⟨b3, o3, none⟩) m vcap) ∧ w'.cell? ⟨w.heap.size + 1 + 1, 0, none⟩ = some (.slice (some ⟨b2, o2, none⟩) m ucap) ∧ w'.cell? ⟨b3, o3 + k0, none⟩ = some (.int .i64 (V k0)) ∧ w'.cell? ⟨b2, o2 + i0, none⟩ = some (.int .i64 (U i0))) (by kernel_rfl) hS (fun hS => ?_)
        refine takeH 0 (some 82) (.bool false) rfl rfl (by kernel_rfl) (by kernel_rfl) (by kernel_rfl) (fun _ _ _ h => h) (by rfl) hS (fun w hSw => by go_split_ands; go_simp <;> first | omega | (rw [IntKind.wrap_i64]; omega) | (intro h; exfalso; omega)) ?_
        simp only [Act.put, List.setIfInBounds_toArray, List.set_cons_zero, List.set_cons_succ]
        refine takeH 1 (some 83) (.bool false) rfl rfl (by kernel_rfl) (by kernel_rfl) (by kernel_rfl) (fun _ _ _ h => h) (by rfl) hS (fun w hSw => by go_split_ands; go_simp <;> first | omega | (rw [IntKind.wrap_i64]; omega) | (intro h; exfalso; omega)) ?_
        simp only [Act.put, List.setIfInBounds_toArray, List.set_cons_zero, List.set_cons_succ]
        refine skipH 2 (some 84) rfl rfl (by kernel_rfl) (by kernel_rfl) (by kernel_rfl) (fun _ _ _ h => h) (by rfl) hS ?_
        simp only [Act.put, List.setIfInBounds_toArray, List.set_cons_zero, List.set_cons_succ]
        refine skipH 3 (some 85) rfl rfl (by kernel_rfl) (by kernel_rfl) (by kernel_rfl) (fun _ _ _ h => h) (by rfl) hS ?_
        simp only [Act.put, List.setIfInBounds_toArray, List.set_cons_zero, List.set_cons_succ]
        refine skipH 4 (some 86) rfl rfl (by kernel_rfl) (by kernel_rfl) (by kernel_rfl) (fun _ _ _ h => h) (by rfl) hS ?_
        simp only [Act.put, List.setIfInBounds_toArray, List.set_cons_zero, List.set_cons_succ]
        refine skipH 5 (some 87) rfl rfl (by kernel_rfl) (by kernel_rfl) (by kernel_rfl) (fun _ _ _ h => h) (by rfl) hS ?_
        simp only [Act.put, List.setIfInBounds_toArray, List.set_cons_zero, List.set_cons_succ]
        refine skipH 6 (some 88) rfl rfl (by kernel_rfl) (by kernel_rfl) (by kernel_rfl) (fun _ _ _ h => h) (by rfl) hS ?_
        simp only [Act.put, List.setIfInBounds_toArray, List.set_cons_zero, List.set_cons_succ]
        refine skipH 7 (some 89) rfl rfl (by kernel_rfl) (by kernel_rfl) (by kernel_rfl) (fun _ _ _ h => h) (by rfl) hS ?_
        simp only [Act.put, List.setIfInBounds_toArray, List.set_cons_zero, List.set_cons_succ]
        refine skipH 8 (some 90) rfl rfl (by kernel_rfl) (by kernel_rfl) (by kernel_rfl) (fun _ _ _ h => h) (by rfl) hS ?_
        simp only [Act.put, List.setIfInBounds_toArray, List.set_cons_zero, List.set_cons_succ]
        refine skipH 9 (some 91) rfl rfl (by kernel_rfl) (by kernel_rfl) (by kernel_rfl) (fun _ _ _ h => h) (by rfl) hS ?_
        simp only [Act.put, List.setIfInBounds_toArray, List.set_cons_zero, List.set_cons_succ]
        refine skipH 10 (some 92) rfl rfl (by kernel_rfl) (by kernel_rfl) (by kernel_rfl) (fun _ _ _ h => h) (by rfl) hS ?_
        simp only [Act.put, List.setIfInBounds_toArray, List.set_cons_zero, List.set_cons_succ]
        refine skipH 11 (some 93) rfl rfl (by kernel_rfl) (by kernel_rfl) (by kernel_rfl) (fun _ _ _ h => h) (by rfl) hS ?_
        simp only [Act.put, List.setIfInBounds_toArray, List.set_cons_zero, List.set_cons_succ]
        refine skipH 12 (some 94) rfl rfl (by kernel_rfl) (by kernel_rfl) (by kernel_rfl) (fun _ _ _ h => h) (by rfl) hS ?_
        simp only [Act.put, List.setIfInBounds_toArray, List.set_cons_zero, List.set_cons_succ]
        refine skipH 13 (some 95) rfl rfl (by kernel_rfl) (by kernel_rfl) (by kernel_rfl) (fun _ _ _ h => h) (by rfl) hS ?_
        simp only [Act.put, List.setIfInBounds_toArray, List.set_cons_zero, List.set_cons_succ]
        refine skipH 14 (some 96) rfl rfl (by kernel_rfl) (by kernel_rfl) (by kernel_rfl) (fun _ _ _ h => h) (by rfl) hS ?_
        simp only [Act.put, List.setIfInBounds_toArray, List.set_cons_zero, List.set_cons_succ]
        refine takeH 15 (some 97) (.bool false) rfl rfl (by kernel_rfl) (by kernel_rfl) (by kernel_rfl) (fun _ _ _ h => h) (by rfl) hS (fun w hSw => by go_split_ands; go_simp <;> first | omega | (rw [IntKind.wrap_i64]; omega) | (intro h; exfalso; omega)) ?_
        simp only [Act.put, List.setIfInBounds_toArray, List.set_cons_zero, List.set_cons_succ]
        refine takeH 16 (some 81) (.bool false) rfl rfl (by kernel_rfl) (by kernel_rfl) (by kernel_rfl) (fun _ _ _ h => h) (by rfl) hS (fun w hSw => by go_split_ands; go_simp <;> first | omega | (rw [IntKind.wrap_i64]; omega) | (intro h; exfalso; omega)) ?_
        simp only [Act.put, List.setIfInBounds_toArray, List.set_cons_zero, List.set_cons_succ]
        refine wpAnyH_done (by kernel_rfl) ?_ _
        go_wp2_with fail
        have hS2 : (fun w' => w'.cell? ⟨w.heap.size + 1 + 1, 1, none⟩ = some (.slice (some ⟨b3, o3, none⟩) m vcap) ∧ w'.cell? ⟨w.heap.size + 1 + 1, 0, none⟩ = some (.slice (some ⟨b2, o2, none⟩) m ucap) ∧ w'.cell? ⟨b3, o3 + k0, none⟩ = some (.int .i64 (V k0)) ∧ w'.cell? ⟨b2, o2 + i0, none⟩ = some (.int .i64 (U i0))) w4.drew.drew := hS
        refine wp_region_held_drew (S := fun w' => w'.cell? ⟨w.heap.size + 1 + 1, 1, none⟩ = some (.slice (some ⟨b3, o3, none⟩) m vcap) ∧ w'.cell? ⟨w.heap.size + 1 + 1, 0, none⟩ = some (.slice (some ⟨b2, o2, none⟩) m ucap) ∧ w'.cell? ⟨b3, o3 + k0, none⟩ = some (.int .i64 (V k0)) ∧ w'.cell? ⟨b2, o2 + i0, none⟩ = some (.int .i64 (U i0))) (by kernel_rfl) hS2 (fun hS2 => ?_)
        refine takeH 0 (some 113) (.bool false) rfl rfl (by kernel_rfl) (by kernel_rfl) (by kernel_rfl) (fun _ _ _ h => h) (by rfl) hS2 (fun w hSw => by go_split_ands; go_simp <;> first | omega | (rw [IntKind.wrap_i64]; omega) | (intro h; exfalso; omega)) ?_
        simp only [Act.put, List.setIfInBounds_toArray, List.set_cons_zero, List.set_cons_succ]
        refine takeH 1 (some 114) (.bool true) rfl rfl (by kernel_rfl) (by kernel_rfl) (by kernel_rfl) (fun _ _ _ h => h) (by rfl) hS2 (fun w hSw => by go_split_ands; go_simp <;> first | omega | (rw [IntKind.wrap_i64]; omega) | (intro h; exfalso; omega)) ?_
        simp only [Act.put, List.setIfInBounds_toArray, List.set_cons_zero, List.set_cons_succ]
        refine takeH 2 (some 115) (.bool true) rfl rfl (by kernel_rfl) (by kernel_rfl) (by kernel_rfl) (fun _ _ _ h => h) (by rfl) hS2 (fun w hSw => by go_split_ands; go_simp <;> first | omega | (rw [IntKind.wrap_i64]; omega) | (intro h; exfalso; omega)) ?_
        simp only [Act.put, List.setIfInBounds_toArray, List.set_cons_zero, List.set_cons_succ]
        refine takeH 3 (some 116) (.pointer (some ⟨w.heap.size + 1 + 1, 1, none⟩)) rfl rfl (by kernel_rfl) (by kernel_rfl) (by kernel_rfl) (fun _ _ _ h => h) (by rfl) hS2 (fun w hSw => by go_split_ands; go_simp <;> first | omega | (rw [IntKind.wrap_i64]; omega) | (intro h; exfalso; omega)) ?_
        simp only [Act.put, List.setIfInBounds_toArray, List.set_cons_zero, List.set_cons_succ]
        refine takeH 4 (some 117) (.slice (some ⟨b3, o3, none⟩) m vcap) rfl rfl (by kernel_rfl) (by kernel_rfl) (by kernel_rfl) (fun _ _ _ h => h) (by rfl) hS2 (fun w hSw => by go_split_ands; go_simp <;> first | omega | (rw [IntKind.wrap_i64]; omega) | (intro h; exfalso; omega)) ?_
        simp only [Act.put, List.setIfInBounds_toArray, List.set_cons_zero, List.set_cons_succ]
        refine takeH 5 (some 118) (.int .i64 (k0 : Int)) rfl rfl (by kernel_rfl) (by kernel_rfl) (by kernel_rfl) (fun _ _ _ h => h) (by rfl) hS2 (fun w hSw => by go_split_ands; go_simp <;> first | omega | (rw [IntKind.wrap_i64]; omega) | (intro h; exfalso; omega)) ?_
        simp only [Act.put, List.setIfInBounds_toArray, List.set_cons_zero, List.set_cons_succ]
        refine takeH 6 (some 119) (.pointer (some ⟨b3, o3 + k0, none⟩)) rfl rfl (by kernel_rfl) (by kernel_rfl) (by kernel_rfl) (fun _ _ _ h => h) (by rfl) hS2 (fun w hSw => by go_split_ands; go_simp <;> first | omega | (rw [IntKind.wrap_i64]; omega) | (intro h; exfalso; omega)) ?_
        simp only [Act.put, List.setIfInBounds_toArray, List.set_cons_zero, List.set_cons_succ]
        refine takeH 7 (some 120) (.int .i64 (V k0)) rfl rfl (by kernel_rfl) (by kernel_rfl) (by kernel_rfl) (fun _ _ _ h => h) (by rfl) hS2 (fun w hSw => by go_split_ands; go_simp <;> first | omega | (rw [IntKind.wrap_i64]; omega) | (intro h; exfalso; omega)) ?_
        simp only [Act.put, List.setIfInBounds_toArray, List.set_cons_zero, List.set_cons_succ]
        refine takeH 8 (some 121) (.pointer (some ⟨w.heap.size + 1 + 1, 0, none⟩)) rfl rfl (by kernel_rfl) (by kernel_rfl) (by kernel_rfl) (fun _ _ _ h => h) (by rfl) hS2 (fun w hSw => by go_split_ands; go_simp <;> first | omega | (rw [IntKind.wrap_i64]; omega) | (intro h; exfalso; omega)) ?_
        simp only [Act.put, List.setIfInBounds_toArray, List.set_cons_zero, List.set_cons_succ]
        refine takeH 9 (some 122) (.slice (some ⟨b2, o2, none⟩) m ucap) rfl rfl (by kernel_rfl) (by kernel_rfl) (by kernel_rfl) (fun _ _ _ h => h) (by rfl) hS2 (fun w hSw => by go_split_ands; go_simp <;> first | omega | (rw [IntKind.wrap_i64]; omega) | (intro h; exfalso; omega)) ?_
        simp only [Act.put, List.setIfInBounds_toArray, List.set_cons_zero, List.set_cons_succ]
        refine takeH 10 (some 123) (.int .i64 (i0 : Int)) rfl rfl (by kernel_rfl) (by kernel_rfl) (by kernel_rfl) (fun _ _ _ h => h) (by rfl) hS2 (fun w hSw => by go_split_ands; go_simp <;> first | omega | (rw [IntKind.wrap_i64]; omega) | (intro h; exfalso; omega)) ?_
        simp only [Act.put, List.setIfInBounds_toArray, List.set_cons_zero, List.set_cons_succ]
        refine takeH 11 (some 124) (.pointer (some ⟨b2, o2 + i0, none⟩)) rfl rfl (by kernel_rfl) (by kernel_rfl) (by kernel_rfl) (fun _ _ _ h => h) (by rfl) hS2 (fun w hSw => by go_split_ands; go_simp <;> first | omega | (rw [IntKind.wrap_i64]; omega) | (intro h; exfalso; omega)) ?_
        simp only [Act.put, List.setIfInBounds_toArray, List.set_cons_zero, List.set_cons_succ]
        refine takeH 12 (some 125) (.int .i64 (U i0)) rfl rfl (by kernel_rfl) (by kernel_rfl) (by kernel_rfl) (fun _ _ _ h => h) (by rfl) hS2 (fun w hSw => by go_split_ands; go_simp <;> first | omega | (rw [IntKind.wrap_i64]; omega) | (intro h; exfalso; omega)) ?_
        simp only [Act.put, List.setIfInBounds_toArray, List.set_cons_zero, List.set_cons_succ]
        refine takeH 14 (some 127) (.int .i64 (V e0)) rfl rfl (by kernel_rfl) (by kernel_rfl) (by kernel_rfl) (fun _ _ _ h => h) (by rfl) hS2 (fun w hSw => by go_split_ands; go_simp <;> first | omega | (rw [IntKind.wrap_i64]; omega) | (intro h; exfalso; omega)) ?_
        simp only [Act.put, List.setIfInBounds_toArray, List.set_cons_zero, List.set_cons_succ]
        refine step1H 13 _ rfl (by kernel_rfl) (by rfl) ?_
        go_simp
        refine (l1Add_any (V k0) (U i0) (hV _ hk0).1 (hV _ hk0).2 (hU _ hi0).1 (hU _ hi0).2 _).mono ?_
        rintro e w5 ⟨rfl, rfl⟩
        refine ⟨hS2, ?_⟩
        by_cases hq : addF (V k0) (U i0) = V e0
        · have hqq : (min 1000000000000 (V k0 + U i0) == V e0) = true := by simpa [addF] using hq
          refine takeH 15 (some 128) (.bool true) rfl rfl (by kernel_rfl) (by kernel_rfl) (by kernel_rfl) (fun _ _ _ h => h) (by rfl) hS2 (fun w hSw => by go_split_ands; go_simp <;> first | omega | (rw [IntKind.wrap_i64]; omega) | (intro h; exfalso; omega)) ?_
          simp only [Act.put, List.setIfInBounds_toArray, List.set_cons_zero, List.set_cons_succ]
          refine takeH 16 (some 129) (.bool true) rfl rfl (by kernel_rfl) (by kernel_rfl) (by kernel_rfl) (fun _ _ _ h => h) (by rfl) hS2 (fun w hSw => by go_split_ands; go_simp <;> first | omega | (rw [IntKind.wrap_i64]; omega) | (intro h; exfalso; omega)) ?_
          simp only [Act.put, List.setIfInBounds_toArray, List.set_cons_zero, List.set_cons_succ]
          refine takeH 17 (some 112) (.bool true) rfl rfl (by kernel_rfl) (by kernel_rfl) (by kernel_rfl) (fun _ _ _ h => h) (by rfl) hS2 (fun w hSw => by go_split_ands; go_simp <;> first | omega | (rw [IntKind.wrap_i64]; omega) | (intro h; exfalso; omega)) ?_
          simp only [Act.put, List.setIfInBounds_toArray, List.set_cons_zero, List.set_cons_succ]
          refine wpAnyH_done (by kernel_rfl) ?_ _
          go_wp2_with fail
          have B5 := ((B4.next (Below.refl _ _).drew).next (Below.refl _ _).drew).next (Below.refl _ _).drew
          refine wp_region_held_drew (S := fun w' => U3 w w' p ao n cap (some ⟨b1, o1, none⟩) k pcap eo m ecap (some ⟨b2, o2, none⟩) ucap (some ⟨b3, o3, none⟩) vcap) (by kernel_rfl) B5 (fun hS3 => ?_)
          refine takeH 0 (some 130) (.agg #[.int .i64 p, .slice ao n cap]) rfl rfl (by kernel_rfl) (by kernel_rfl) (by kernel_rfl) (fun _ _ _ h => h) (by rfl) hS3 (fun w' hSw => by have y0 := hSw.g0; have y1 := hSw.g1; have y2 := hSw.h0; have y3 := hSw.h1; have y4 := hSw.m0; have y5 := hSw.m1; go_simp) ?_
          simp only [Act.put, List.setIfInBounds_toArray, List.set_cons_zero, List.set_cons_succ]
          refine takeH 1 (some 131) (.agg #[.slice (some ⟨b1, o1, none⟩) k pcap, .slice eo m ecap]) rfl rfl (by kernel_rfl) (by kernel_rfl) (by kernel_rfl) (fun _ _ _ h => h) (by rfl) hS3 (fun w' hSw => by have y0 := hSw.g0; have y1 := hSw.g1; have y2 := hSw.h0; have y3 := hSw.h1; have y4 := hSw.m0; have y5 := hSw.m1; go_simp) ?_
          simp only [Act.put, List.setIfInBounds_toArray, List.set_cons_zero, List.set_cons_succ]
          refine takeH 2 (some 132) (.agg #[.slice (some ⟨b2, o2, none⟩) m ucap, .slice (some ⟨b3, o3, none⟩) m vcap]) rfl rfl (by kernel_rfl) (by kernel_rfl) (by kernel_rfl) (fun _ _ _ h => h) (by rfl) hS3 (fun w' hSw => by have y0 := hSw.g0; have y1 := hSw.g1; have y2 := hSw.h0; have y3 := hSw.h1; have y4 := hSw.m0; have y5 := hSw.m1; go_simp) ?_
          simp only [Act.put, List.setIfInBounds_toArray, List.set_cons_zero, List.set_cons_succ]
          refine takeH 3 (some 133) (.int .i64 (v : Int)) rfl rfl (by kernel_rfl) (by kernel_rfl) (by kernel_rfl) (fun _ _ _ h => h) (by rfl) hS3 (fun w' hSw => by have y0 := hSw.g0; have y1 := hSw.g1; have y2 := hSw.h0; have y3 := hSw.h1; have y4 := hSw.m0; have y5 := hSw.m1; go_simp) ?_
          simp only [Act.put, List.setIfInBounds_toArray, List.set_cons_zero, List.set_cons_succ]
          refine takeH 4 (some 134) (.int .i64 (hi : Int)) rfl rfl (by kernel_rfl) (by kernel_rfl) (by kernel_rfl) (fun _ _ _ h => h) (by rfl) hS3 (fun w' hSw => by have y0 := hSw.g0; have y1 := hSw.g1; have y2 := hSw.h0; have y3 := hSw.h1; have y4 := hSw.m0; have y5 := hSw.m1; go_simp) ?_
          simp only [Act.put, List.setIfInBounds_toArray, List.set_cons_zero, List.set_cons_succ]
          refine takeH 6 (some 136) (.agg #[.int .i64 p, .slice ao n cap]) rfl rfl (by kernel_rfl) (by kernel_rfl) (by kernel_rfl) (fun _ _ _ h => h) (by rfl) hS3 (fun w' hSw => by have y0 := hSw.g0; have y1 := hSw.g1; have y2 := hSw.h0; have y3 := hSw.h1; have y4 := hSw.m0; have y5 := hSw.m1; go_simp) ?_
          simp only [Act.put, List.setIfInBounds_toArray, List.set_cons_zero, List.set_cons_succ]
          refine takeH 7 (some 137) (.agg #[.slice (some ⟨b1, o1, none⟩) k pcap, .slice eo m ecap]) rfl rfl (by kernel_rfl) (by kernel_rfl) (by kernel_rfl) (fun _ _ _ h => h) (by rfl) hS3 (fun w' hSw => by have y0 := hSw.g0; have y1 := hSw.g1; have y2 := hSw.h0; have y3 := hSw.h1; have y4 := hSw.m0; have y5 := hSw.m1; go_simp) ?_
          simp only [Act.put, List.setIfInBounds_toArray, List.set_cons_zero, List.set_cons_succ]
          refine takeH 8 (some 138) (.agg #[.slice (some ⟨b2, o2, none⟩) m ucap, .slice (some ⟨b3, o3, none⟩) m vcap]) rfl rfl (by kernel_rfl) (by kernel_rfl) (by kernel_rfl) (fun _ _ _ h => h) (by rfl) hS3 (fun w' hSw => by have y0 := hSw.g0; have y1 := hSw.g1; have y2 := hSw.h0; have y3 := hSw.h1; have y4 := hSw.m0; have y5 := hSw.m1; go_simp) ?_
          simp only [Act.put, List.setIfInBounds_toArray, List.set_cons_zero, List.set_cons_succ]
          refine takeH 9 (some 139) (.int .i64 (v : Int)) rfl rfl (by kernel_rfl) (by kernel_rfl) (by kernel_rfl) (fun _ _ _ h => h) (by rfl) hS3 (fun w' hSw => by have y0 := hSw.g0; have y1 := hSw.g1; have y2 := hSw.h0; have y3 := hSw.h1; have y4 := hSw.m0; have y5 := hSw.m1; go_simp) ?_
          simp only [Act.put, List.setIfInBounds_toArray, List.set_cons_zero, List.set_cons_succ]
          refine takeH 10 (some 140) (.int .i64 (lo : Int)) rfl rfl (by kernel_rfl) (by kernel_rfl) (by kernel_rfl) (fun _ _ _ h => h) (by rfl) hS3 (fun w' hSw => by have y0 := hSw.g0; have y1 := hSw.g1; have y2 := hSw.h0; have y3 := hSw.h1; have y4 := hSw.m0; have y5 := hSw.m1; go_simp) ?_
          simp only [Act.put, List.setIfInBounds_toArray, List.set_cons_zero, List.set_cons_succ]
          have hR5 := hR.below B5.bel (Nat.le_refl _)
          have hsz5 := B5.sz
          have hbl5 := B5.bel
          generalize w4.drew.drew.drew = x0 at B5 hS3 hR5 hsz5 hbl5 ⊢
          refine step1H 5 _ rfl (by kernel_rfl) (by rfl) ?_
          go_simp
          refine (ih v hlt hi false _ hR5 hs2 (by omega) (by omega) (by omega)).mono ?_
          rintro e x1 ⟨g1, cc1, rfl, hL1, hb1⟩
          have B6 := B5.next hb1
          have hR6 := hR5.below hb1 (Nat.le_refl _)
          refine ⟨B6, ?_⟩
          refine step1H 11 _ rfl (by kernel_rfl) (by rfl) ?_
          go_simp
          refine (ih v hlt lo true _ hR6 hs1 (by omega) (by omega) (by omega)).mono ?_
          rintro e x2 ⟨g2, cc2, rfl, hL2, hb2⟩
          have B7 := B6.next hb2
          refine ⟨B7, ?_⟩
          have hy := Net.wy_some (hnA.trans (Net.fst_step hlt HNO.out (hfit.trans (by simpa using hq))))
          have z1 := (netOf n F T G P m L H U V).wy_len v hi false
          have z2 := (netOf n F T G P m L H U V).wy_len v lo true
          have zp : 2 ^ v ≤ 2 ^ 29 := Nat.pow_le_pow_right (by omega) (by omega)
          simp only [frR, toR, if_true, if_false, Bool.false_eq_true] at hy hL1 hL2 ⊢
          clear ih
          generalize (netOf n F T G P m L H U V).wy v hi false = y1 at hL1 z1 hy ⊢
          generalize (netOf n F T G P m L H U V).wy v lo true = y2 at hL2 z2 hy ⊢
          have hcp : y2.length + 1 ≤ cc2 := by have := hL2.cap; simpa using this
          obtain ⟨g2', e2', hg2, _, hc2⟩ := hL2.cells (by simp)
          cases e2'
          obtain ⟨g1', e1'', hg1, _, _⟩ := hL1.cells (by simp)
          cases e1''
          have u1 : (1 : Int) ≤ (y2.length : Int) + 1 := by omega
          have u2 : ¬ cc2 = 1 := by omega
          have hL1' := (hL1.from (base' := w.heap.size + 3) hsz5).next hb2
          refine takeH 12 (some 142) (.slice (some ⟨g2, 1, none⟩) y2.length (cc2 - 1)) rfl rfl (by kernel_rfl) (by kernel_rfl) (by kernel_rfl) (fun _ _ _ h => h) (by rfl) B7 (fun w' hSw => by go_simp) ?_
          simp only [Act.put, List.setIfInBounds_toArray, List.set_cons_zero, List.set_cons_succ]
          refine step1H 13 _ rfl (by kernel_rfl) (by rfl) ?_
          refine wp_appL (.tmp 135) (.tmp 142) rfl 143 rfl (w.heap.size + 3) cc1 (some ⟨g1, 0, none⟩) _ y2 rfl hL1' g2 1 y2.length (cc2 - 1) rfl rfl (fun j u hu => by have := hc2 (j + 1) u (by simpa using hu); rw [Nat.add_comm]; exact this) (by omega) (by simp; omega) (by omega) (by have := B7.sz; omega) ?_
          intro g3 cc3 x3 hown hgr _
          have hgr' : x2.grownBy x3 (some g1) := hgr
          have hfar := gr_below hgr' (B := w.heap.size + 3) (Nat.le_trans hsz5 hg1) (by have := B7.sz; omega)
          have B8 := B7.far hfar
          refine ⟨B8, ?_⟩
          simp only [Act.put, List.setIfInBounds_toArray, List.set_cons_zero, List.set_cons_succ]
          refine takeH 14 (some 12) (.slice (some ⟨g3, 0, none⟩) (y1.length + 1 + y2.length) cc3) rfl rfl (by kernel_rfl) (by kernel_rfl) (by kernel_rfl) (fun _ _ _ h => h) (by rfl) B8 (fun w' hSw => by go_simp) ?_
          simp only [Act.put, List.setIfInBounds_toArray, List.set_cons_zero, List.set_cons_succ]
          refine wpAnyH_done (by kernel_rfl) ?_ _
          go_wp2
          go_ret
          rw [hy]
          refine ⟨g3, cc3, by simp [Nat.add_assoc, Nat.add_comm, Nat.add_left_comm], ?_, B8.bel⟩
          have := hown.from (base' := w.heap.size) (by omega)
          simpa [frR] using this
        · have hqq : (min 1000000000000 (V k0 + U i0) == V e0) = false := by simpa [addF] using hq
          refine takeH 15 (some 128) (.bool false) rfl rfl (by kernel_rfl) (by kernel_rfl) (by kernel_rfl) (fun _ _ _ h => h) (by rfl) hS2 (fun w hSw => by go_split_ands; go_simp <;> first | omega | (rw [IntKind.wrap_i64]; omega) | (intro h; exfalso; omega)) ?_
          simp only [Act.put, List.setIfInBounds_toArray, List.set_cons_zero, List.set_cons_succ]
          refine takeH 16 (some 129) (.bool false) rfl rfl (by kernel_rfl) (by kernel_rfl) (by kernel_rfl) (fun _ _ _ h => h) (by rfl) hS2 (fun w hSw => by go_split_ands; go_simp <;> first | omega | (rw [IntKind.wrap_i64]; omega) | (intro h; exfalso; omega)) ?_
          simp only [Act.put, List.setIfInBounds_toArray, List.set_cons_zero, List.set_cons_succ]
          refine takeH 17 (some 112) (.bool false) rfl rfl (by kernel_rfl) (by kernel_rfl) (by kernel_rfl) (fun _ _ _ h => h) (by rfl) hS2 (fun w hSw => by go_split_ands; go_simp <;> first | omega | (rw [IntKind.wrap_i64]; omega) | (intro h; exfalso; omega)) ?_
          simp only [Act.put, List.setIfInBounds_toArray, List.set_cons_zero, List.set_cons_succ]
          refine wpAnyH_done (by kernel_rfl) ?_ _
          have hf := hcont (by rw [hfit]; simpa using hq)
          clear ih hcont
          go_wp2
          go_roundw
          case rel => exact ⟨v + 1, by omega, by go_num, hf, (B4.next (Below.refl _ _).drew).next (Below.refl _ _).drew⟩
          case measure => simp [intOf]; omega
    · go_wp2_with fail
      refine (l1Weight_any p ao n cap F T G (P lo) (P hi) hn hA _ hR1.arcs).mono ?_
      rintro e w2 ⟨rfl, hb2⟩
      have B2 := B1.next hb2
      have hR2 := hR1.below hb2 (Nat.le_refl _)
      have hwt : (netOf n F T G P m L H U V).wt lo hi true = U e0 := by simp [Net.wt, netOf, he0]
      by_cases hA1 : lastW F T G (P lo) (P hi) n = U e0
      · have hh : (netOf n F T G P m L H U V).half lo hi true = none := by
          have : (netOf n F T G P m L H U V).isA lo hi true = true := by
            unfold Net.isA
            rw [hwt]
            simpa [netOf, frR, toR] using hA1
          unfold Net.half
          rw [if_pos this]
        clear ih
        go_wp2
        go_ret
        rw [Net.wy_none hh]
        exact ⟨_, _, rfl, lown_lit2 _ _ _ (by have := B2.bel.size; omega), B2.bel.alloc B2.bel.size _⟩
      have hnA : (netOf n F T G P m L H U V).half lo hi true = (netOf n F T G P m L H U V).fst lo hi true := by
        have : ¬ (netOf n F T G P m L H U V).isA lo hi true = true := by
          unfold Net.isA
          rw [hwt]
          simpa [netOf, frR, toR] using hA1
        unfold Net.half
        rw [if_neg this]
      have q1 := B2.h1
      clear B1 hR1 c1 c2 c3 c4 q0 q2 q3 q4 q5 q1
      have hAf : (lastW F T G (P lo) (P hi) n == U e0) = false := by simpa using hA1
      go_wp2
      clear hA1 hAf
      go_loopw [18] (fun x wr => ∃ v : Nat, v ≤ lo ∧ x = .int .i64 v ∧ (∀ t, t < v → (netOf n F T G P m L H U V).fit lo hi true t = false) ∧ U3 w wr p ao n cap (some ⟨b1, o1, none⟩) k pcap eo m ecap (some ⟨b2, o2, none⟩) ucap (some ⟨b3, o3, none⟩) vcap) (fun x _ => lo - (intOf x).toNat)
      case atStart => exact ⟨0, Nat.zero_le _, rfl, fun t ht => by omega, B2⟩
      case round =>
        clear B2 hR2
        obtain ⟨v, hv, rfl, hno, B2⟩ := hrel
        have HNO : Hid (∀ t, t < v → (netOf n F T G P m L H U V).fit lo hi true t = false) := hno
        clear hno
        by_cases hlt : v < lo
        rotate_left
        · obtain rfl : v = lo := by omega
          have hh : (netOf n F T G P m L H U V).half v hi true = none := by rw [hnA]; exact Net.fst_end HNO.out
          clear ih
          go_wp2
          go_ret
          rw [Net.wy_none hh]
          exact ⟨_, _, rfl, lown_lit2 _ _ _ (by have := B2.bel.size; omega), B2.bel.alloc B2.bel.size _⟩
        have hR2 := hR.below B2.bel (Nat.le_refl _)
        have l7 : (v : Int) < (lo : Int) := by omega
        have q1 := B2.h1
        go_wp2_with fail
        refine (l4Find_net hE eo ecap (v : Int) (lo : Int) hm _ hR2.eds).mono ?_
        rintro e w3 ⟨r1, rfl, hy1, hz1, hb3⟩
        have B3 := B2.next hb3
        have q13 := B3.h1
        have hR3 := hR2.below hb3 (Nat.le_refl _)
        clear B2 hR2 q1
        go_wp2_with fail
        refine (l4Find_net hE eo ecap (v : Int) (hi : Int) hm _ hR3.eds).mono ?_
        rintro e w4 ⟨r2, rfl, hy2, hz2, hb4⟩
        have B4 := B3.next hb4
        have hR4 := hR3.below hb4 (Nat.le_refl _)
        clear B3 hR3 q13
        have hcont : ∀ h : (netOf n F T G P m L H U V).fit lo hi true v = false, ∀ t, t < v + 1 → (netOf n F T G P m L H U V).fit lo hi true t = false := fun h t ht => by
          by_cases e : t = v
          · subst e; exact h
          · exact HNO.out t (by omega)
        cases hs1 : hsB m L H v lo with
        | false =>
          have hlt1 := hz1 hs1
          have hf := hcont (by simp [Net.fit, netOf, frR, toR, hs1])
          clear ih hy1 hy2 hz1 hz2 hcont
          go_wp2
          go_roundw
          case rel => exact ⟨v + 1, by omega, by go_num, hf, B4⟩
          case measure => simp [intOf]; omega
        | true =>
        obtain ⟨rfl, hi0⟩ := hy1 hs1
        have hge1 : ¬ ((fnd L H v lo m : Nat) : Int) < 0 := by omega
        cases hs2 : hsB m L H v hi with
        | false =>
          have hlt2 := hz2 hs2
          have hf := hcont (by simp [Net.fit, netOf, frR, toR, hs2])
          clear ih hy1 hy2 hz1 hz2 hcont
          go_wp2
          go_roundw
          case rel => exact ⟨v + 1, by omega, by go_num, hf, B4⟩
          case measure => simp [intOf]; omega
        | true =>
        obtain ⟨rfl, hk0⟩ := hy2 hs2
        have hge2 : ¬ ((fnd L H v hi m : Nat) : Int) < 0 := by omega
        clear hy1 hy2 hz1 hz2
        have hfit : (netOf n F T G P m L H U V).fit lo hi true v = decide (addF (V (fnd L H v lo m)) (U (fnd L H v hi m)) = U e0) := by simp [Net.fit, netOf, frR, toR, hs1, hs2, Net.wt, he0]
        obtain ⟨i0, hie⟩ : ∃ i0, fnd L H v lo m = i0 := ⟨_, rfl⟩
        obtain ⟨k0, hke⟩ : ∃ k0, fnd L H v hi m = k0 := ⟨_, rfl⟩
        rw [hie] at hi0 hge1 hfit ⊢
        rw [hke] at hk0 hge2 hfit ⊢
        obtain ⟨b4, o4, e4, c3⟩ := hR4.up k0 hk0
        obtain ⟨b5, o5, e5, c4⟩ := hR4.dn i0 hi0
        cases e4
        cases e5
        have q2 := B4.m0
        have q3 := B4.m1
        have l8 : (0 : Int) ≤ (i0 : Int) := by omega
        have l9 : (i0 : Int) < (m : Int) := by omega
        have l10 : (0 : Int) ≤ (k0 : Int) := by omega
        have l11 : (k0 : Int) < (m : Int) := by omega
        go_wp2_with fail
        have hS : (fun w' => w'.cell? ⟨w.heap.size + 1 + 1, 1, none⟩ = some (.slice (some ⟨b3, o3, none⟩) m vcap) ∧ w'.cell? ⟨w.heap.size + 1 + 1, 0, none⟩ = some (.slice (some ⟨b2, o2, none⟩) m ucap) ∧ w'.cell? ⟨b3, o3 + i0, none⟩ = some (.int .i64 (V i0)) ∧ w'.cell? ⟨b2, o2 + k0, none⟩ = some (.int .i64 (U k0))) w4.drew := ⟨q3, q2, c4, c3⟩
        refine wp_region_held_drew (S := fun w' => w'.cell? ⟨w.heap.size + 1 + 1, 1, none⟩ = some (.slice (some ⟨b3, o3, none⟩) m vcap) ∧ w'.cell? ⟨w.heap.size + 1 + 1, 0, none⟩ = some (.slice (some ⟨b2, o2, none⟩) m ucap) ∧ w'.cell? ⟨b3, o3 + i0, none⟩ = some (.int .i64 (V i0)) ∧ w'.cell? ⟨b2, o2 + k0, none⟩ = some (.int .i64 (U k0))) (by kernel_rfl) hS (fun hS => ?_)
        refine takeH 0 (some 82) (.bool true) rfl rfl (by kernel_rfl) (by kernel_rfl) (by kernel_rfl) (fun _ _ _ h => h) (by rfl) hS (fun w hSw => by go_split_ands; go_simp <;> first | omega | (rw [IntKind.wrap_i64]; omega) | (intro h; exfalso; omega)) ?_
        simp only [Act.put, List.setIfInBounds_toArray, List.set_cons_zero, List.set_cons_succ]
        refine takeH 1 (some 83) (.bool true) rfl rfl (by kernel_rfl) (by kernel_rfl) (by kernel_rfl) (fun _ _ _ h => h) (by rfl) hS (fun w hSw => by go_split_ands; go_simp <;> first | omega | (rw [IntKind.wrap_i64]; omega) | (intro h; exfalso; omega)) ?_
        simp only [Act.put, List.setIfInBounds_toArray, List.set_cons_zero, List.set_cons_succ]
        refine takeH 2 (some 84) (.pointer (some ⟨w.heap.size + 1 + 1, 1, none⟩)) rfl rfl (by kernel_rfl) (by kernel_rfl) (by kernel_rfl) (fun _ _ _ h => h) (by rfl) hS (fun w hSw => by go_split_ands; go_simp <;> first | omega | (rw [IntKind.wrap_i64]; omega) | (intro h; exfalso; omega)) ?_
        simp only [Act.put, List.setIfInBounds_toArray, List.set_cons_zero, List.set_cons_succ]
        refine takeH 3 (some 85) (.slice (some ⟨b3, o3, none⟩) m vcap) rfl rfl (by kernel_rfl) (by kernel_rfl) (by kernel_rfl) (fun _ _ _ h => h) (by rfl) hS (fun w hSw => by go_split_ands; go_simp <;> first | omega | (rw [IntKind.wrap_i64]; omega) | (intro h; exfalso; omega)) ?_
        simp only [Act.put, List.setIfInBounds_toArray, List.set_cons_zero, List.set_cons_succ]
        refine takeH 4 (some 86) (.int .i64 (i0 : Int)) rfl rfl (by kernel_rfl) (by kernel_rfl) (by kernel_rfl) (fun _ _ _ h => h) (by rfl) hS (fun w hSw => by go_split_ands; go_simp <;> first | omega | (rw [IntKind.wrap_i64]; omega) | (intro h; exfalso; omega)) ?_
        simp only [Act.put, List.setIfInBounds_toArray, List.set_cons_zero, List.set_cons_succ]
        refine takeH 5 (some 87) (.pointer (some ⟨b3, o3 + i0, none⟩)) rfl rfl (by kernel_rfl) (by kernel_rfl) (by kernel_rfl) (fun _ _ _ h => h) (by rfl) hS (fun w hSw => by go_split_ands; go_simp <;> first | omega | (rw [IntKind.wrap_i64]; omega) | (intro h; exfalso; omega)) ?_
        simp only [Act.put, List.setIfInBounds_toArray, List.set_cons_zero, List.set_cons_succ]
        refine takeH 6 (some 88) (.int .i64 (V i0)) rfl rfl (by kernel_rfl) (by kernel_rfl) (by kernel_rfl) (fun _ _ _ h => h) (by rfl) hS (fun w hSw => by go_split_ands; go_simp <;> first | omega | (rw [IntKind.wrap_i64]; omega) | (intro h; exfalso; omega)) ?_
        simp only [Act.put, List.setIfInBounds_toArray, List.set_cons_zero, List.set_cons_succ]
        refine takeH 7 (some 89) (.pointer (some ⟨w.heap.size + 1 + 1, 0, none⟩)) rfl rfl (by kernel_rfl) (by kernel_rfl) (by kernel_rfl) (fun _ _ _ h => h) (by rfl) hS (fun w hSw => by go_split_ands; go_simp <;> first | omega | (rw [IntKind.wrap_i64]; omega) | (intro h; exfalso; omega)) ?_
        simp only [Act.put, List.setIfInBounds_toArray, List.set_cons_zero, List.set_cons_succ]
        refine takeH 8 (some 90) (.slice (some ⟨b2, o2, none⟩) m ucap) rfl rfl (by kernel_rfl) (by kernel_rfl) (by kernel_rfl) (fun _ _ _ h => h) (by rfl) hS (fun w hSw => by go_split_ands; go_simp <;> first | omega | (rw [IntKind.wrap_i64]; omega) | (intro h; exfalso; omega)) ?_
        simp only [Act.put, List.setIfInBounds_toArray, List.set_cons_zero, List.set_cons_succ]
        refine takeH 9 (some 91) (.int .i64 (k0 : Int)) rfl rfl (by kernel_rfl) (by kernel_rfl) (by kernel_rfl) (fun _ _ _ h => h) (by rfl) hS (fun w hSw => by go_split_ands; go_simp <;> first | omega | (rw [IntKind.wrap_i64]; omega) | (intro h; exfalso; omega)) ?_
        simp only [Act.put, List.setIfInBounds_toArray, List.set_cons_zero, List.set_cons_succ]
        refine takeH 10 (some 92) (.pointer (some ⟨b2, o2 + k0, none⟩)) rfl rfl (by kernel_rfl) (by kernel_rfl) (by kernel_rfl) (fun _ _ _ h => h) (by rfl) hS (fun w hSw => by go_split_ands; go_simp <;> first | omega | (rw [IntKind.wrap_i64]; omega) | (intro h; exfalso; omega)) ?_
        simp only [Act.put, List.setIfInBounds_toArray, List.set_cons_zero, List.set_cons_succ]
        refine takeH 11 (some 93) (.int .i64 (U k0)) rfl rfl (by kernel_rfl) (by kernel_rfl) (by kernel_rfl) (fun _ _ _ h => h) (by rfl) hS (fun w hSw => by go_split_ands; go_simp <;> first | omega | (rw [IntKind.wrap_i64]; omega) | (intro h; exfalso; omega)) ?_
        simp only [Act.put, List.setIfInBounds_toArray, List.set_cons_zero, List.set_cons_succ]
        refine takeH 13 (some 95) (.int .i64 (U e0)) rfl rfl (by kernel_rfl) (by kernel_rfl) (by kernel_rfl) (fun _ _ _ h => h) (by rfl) hS (fun w hSw => by go_split_ands; go_simp <;> first | omega | (rw [IntKind.wrap_i64]; omega) | (intro h; exfalso; omega)) ?_
        simp only [Act.put, List.setIfInBounds_toArray, List.set_cons_zero, List.set_cons_succ]
        refine step1H 12 _ rfl (by kernel_rfl) (by rfl) ?_
        go_simp
        refine (l1Add_any (V i0) (U k0) (hV _ hi0).1 (hV _ hi0).2 (hU _ hk0).1 (hU _ hk0).2 _).mono ?_
        rintro e w5 ⟨rfl, rfl⟩
        refine ⟨hS, ?_⟩
        by_cases hq : addF (V i0) (U k0) = U e0
        · have hqq : (min 1000000000000 (V i0 + U k0) == U e0) = true := by simpa [addF] using hq
          refine takeH 14 (some 96) (.bool true) rfl rfl (by kernel_rfl) (by kernel_rfl) (by kernel_rfl) (fun _ _ _ h => h) (by rfl) hS (fun w hSw => by go_split_ands; go_simp <;> first | omega | (rw [IntKind.wrap_i64]; omega) | (intro h; exfalso; omega)) ?_
          simp only [Act.put, List.setIfInBounds_toArray, List.set_cons_zero, List.set_cons_succ]
          refine takeH 15 (some 97) (.bool true) rfl rfl (by kernel_rfl) (by kernel_rfl) (by kernel_rfl) (fun _ _ _ h => h) (by rfl) hS (fun w hSw => by go_split_ands; go_simp <;> first | omega | (rw [IntKind.wrap_i64]; omega) | (intro h; exfalso; omega)) ?_
          simp only [Act.put, List.setIfInBounds_toArray, List.set_cons_zero, List.set_cons_succ]
          refine takeH 16 (some 81) (.bool true) rfl rfl (by kernel_rfl) (by kernel_rfl) (by kernel_rfl) (fun _ _ _ h => h) (by rfl) hS (fun w hSw => by go_split_ands; go_simp <;> first | omega | (rw [IntKind.wrap_i64]; omega) | (intro h; exfalso; omega)) ?_
          simp only [Act.put, List.setIfInBounds_toArray, List.set_cons_zero, List.set_cons_succ]
          refine wpAnyH_done (by kernel_rfl) ?_ _
          go_wp2_with fail
          have B5 := (B4.next (Below.refl _ _).drew).next (Below.refl _ _).drew
          refine wp_region_held_drew (S := fun w' => U3 w w' p ao n cap (some ⟨b1, o1, none⟩) k pcap eo m ecap (some ⟨b2, o2, none⟩) ucap (some ⟨b3, o3, none⟩) vcap) (by kernel_rfl) B5 (fun hS3 => ?_)
          refine takeH 0 (some 98) (.agg #[.int .i64 p, .slice ao n cap]) rfl rfl (by kernel_rfl) (by kernel_rfl) (by kernel_rfl) (fun _ _ _ h => h) (by rfl) hS3 (fun w' hSw => by have y0 := hSw.g0; have y1 := hSw.g1; have y2 := hSw.h0; have y3 := hSw.h1; have y4 := hSw.m0; have y5 := hSw.m1; go_simp) ?_
          simp only [Act.put, List.setIfInBounds_toArray, List.set_cons_zero, List.set_cons_succ]
          refine takeH 1 (some 99) (.agg #[.slice (some ⟨b1, o1, none⟩) k pcap, .slice eo m ecap]) rfl rfl (by kernel_rfl) (by kernel_rfl) (by kernel_rfl) (fun _ _ _ h => h) (by rfl) hS3 (fun w' hSw => by have y0 := hSw.g0; have y1 := hSw.g1; have y2 := hSw.h0; have y3 := hSw.h1; have y4 := hSw.m0; have y5 := hSw.m1; go_simp) ?_
          simp only [Act.put, List.setIfInBounds_toArray, List.set_cons_zero, List.set_cons_succ]
          refine takeH 2 (some 100) (.agg #[.slice (some ⟨b2, o2, none⟩) m ucap, .slice (some ⟨b3, o3, none⟩) m vcap]) rfl rfl (by kernel_rfl) (by kernel_rfl) (by kernel_rfl) (fun _ _ _ h => h) (by rfl) hS3 (fun w' hSw => by have y0 := hSw.g0; have y1 := hSw.g1; have y2 := hSw.h0; have y3 := hSw.h1; have y4 := hSw.m0; have y5 := hSw.m1; go_simp) ?_
          simp only [Act.put, List.setIfInBounds_toArray, List.set_cons_zero, List.set_cons_succ]
          refine takeH 3 (some 101) (.int .i64 (v : Int)) rfl rfl (by kernel_rfl) (by kernel_rfl) (by kernel_rfl) (fun _ _ _ h => h) (by rfl) hS3 (fun w' hSw => by have y0 := hSw.g0; have y1 := hSw.g1; have y2 := hSw.h0; have y3 := hSw.h1; have y4 := hSw.m0; have y5 := hSw.m1; go_simp) ?_
          simp only [Act.put, List.setIfInBounds_toArray, List.set_cons_zero, List.set_cons_succ]
          refine takeH 4 (some 102) (.int .i64 (lo : Int)) rfl rfl (by kernel_rfl) (by kernel_rfl) (by kernel_rfl) (fun _ _ _ h => h) (by rfl) hS3 (fun w' hSw => by have y0 := hSw.g0; have y1 := hSw.g1; have y2 := hSw.h0; have y3 := hSw.h1; have y4 := hSw.m0; have y5 := hSw.m1; go_simp) ?_
          simp only [Act.put, List.setIfInBounds_toArray, List.set_cons_zero, List.set_cons_succ]
          refine takeH 6 (some 104) (.agg #[.int .i64 p, .slice ao n cap]) rfl rfl (by kernel_rfl) (by kernel_rfl) (by kernel_rfl) (fun _ _ _ h => h) (by rfl) hS3 (fun w' hSw => by have y0 := hSw.g0; have y1 := hSw.g1; have y2 := hSw.h0; have y3 := hSw.h1; have y4 := hSw.m0; have y5 := hSw.m1; go_simp) ?_
          simp only [Act.put, List.setIfInBounds_toArray, List.set_cons_zero, List.set_cons_succ]
          refine takeH 7 (some 105) (.agg #[.slice (some ⟨b1, o1, none⟩) k pcap, .slice eo m ecap]) rfl rfl (by kernel_rfl) (by kernel_rfl) (by kernel_rfl) (fun _ _ _ h => h) (by rfl) hS3 (fun w' hSw => by have y0 := hSw.g0; have y1 := hSw.g1; have y2 := hSw.h0; have y3 := hSw.h1; have y4 := hSw.m0; have y5 := hSw.m1; go_simp) ?_
          simp only [Act.put, List.setIfInBounds_toArray, List.set_cons_zero, List.set_cons_succ]
          refine takeH 8 (some 106) (.agg #[.slice (some ⟨b2, o2, none⟩) m ucap, .slice (some ⟨b3, o3, none⟩) m vcap]) rfl rfl (by kernel_rfl) (by kernel_rfl) (by kernel_rfl) (fun _ _ _ h => h) (by rfl) hS3 (fun w' hSw => by have y0 := hSw.g0; have y1 := hSw.g1; have y2 := hSw.h0; have y3 := hSw.h1; have y4 := hSw.m0; have y5 := hSw.m1; go_simp) ?_
          simp only [Act.put, List.setIfInBounds_toArray, List.set_cons_zero, List.set_cons_succ]
          refine takeH 9 (some 107) (.int .i64 (v : Int)) rfl rfl (by kernel_rfl) (by kernel_rfl) (by kernel_rfl) (fun _ _ _ h => h) (by rfl) hS3 (fun w' hSw => by have y0 := hSw.g0; have y1 := hSw.g1; have y2 := hSw.h0; have y3 := hSw.h1; have y4 := hSw.m0; have y5 := hSw.m1; go_simp) ?_
          simp only [Act.put, List.setIfInBounds_toArray, List.set_cons_zero, List.set_cons_succ]
          refine takeH 10 (some 108) (.int .i64 (hi : Int)) rfl rfl (by kernel_rfl) (by kernel_rfl) (by kernel_rfl) (fun _ _ _ h => h) (by rfl) hS3 (fun w' hSw => by have y0 := hSw.g0; have y1 := hSw.g1; have y2 := hSw.h0; have y3 := hSw.h1; have y4 := hSw.m0; have y5 := hSw.m1; go_simp) ?_
          simp only [Act.put, List.setIfInBounds_toArray, List.set_cons_zero, List.set_cons_succ]
          have hR5 := hR.below B5.bel (Nat.le_refl _)
          have hsz5 := B5.sz
          have hbl5 := B5.bel
          generalize w4.drew.drew = x0 at B5 hS3 hR5 hsz5 hbl5 ⊢
          refine step1H 5 _ rfl (by kernel_rfl) (by rfl) ?_
          go_simp
          refine (ih v hlt lo false _ hR5 hs1 (by omega) (by omega) (by omega)).mono ?_
          rintro e x1 ⟨g1, cc1, rfl, hL1, hb1⟩
          have B6 := B5.next hb1
          have hR6 := hR5.below hb1 (Nat.le_refl _)
          refine ⟨B6, ?_⟩
          refine step1H 11 _ rfl (by kernel_rfl) (by rfl) ?_
          go_simp
          refine (ih v hlt hi true _ hR6 hs2 (by omega) (by omega) (by omega)).mono ?_
          rintro e x2 ⟨g2, cc2, rfl, hL2, hb2⟩
          have B7 := B6.next hb2
          refine ⟨B7, ?_⟩
          have hy := Net.wy_some (hnA.trans (Net.fst_step hlt HNO.out (hfit.trans (by simpa using hq))))
          have z1 := (netOf n F T G P m L H U V).wy_len v lo false
          have z2 := (netOf n F T G P m L H U V).wy_len v hi true
          have zp : 2 ^ v ≤ 2 ^ 29 := Nat.pow_le_pow_right (by omega) (by omega)
          simp only [frR, toR, if_true, if_false, Bool.false_eq_true] at hy hL1 hL2 ⊢
          clear ih
          generalize (netOf n F T G P m L H U V).wy v lo false = y1 at hL1 z1 hy ⊢
          generalize (netOf n F T G P m L H U V).wy v hi true = y2 at hL2 z2 hy ⊢
          have hcp : y2.length + 1 ≤ cc2 := by have := hL2.cap; simpa using this
          obtain ⟨g2', e2', hg2, _, hc2⟩ := hL2.cells (by simp)
          cases e2'
          obtain ⟨g1', e1'', hg1, _, _⟩ := hL1.cells (by simp)
          cases e1''
          have u1 : (1 : Int) ≤ (y2.length : Int) + 1 := by omega
          have u2 : ¬ cc2 = 1 := by omega
          have hL1' := (hL1.from (base' := w.heap.size + 3) hsz5).next hb2
          refine takeH 12 (some 110) (.slice (some ⟨g2, 1, none⟩) y2.length (cc2 - 1)) rfl rfl (by kernel_rfl) (by kernel_rfl) (by kernel_rfl) (fun _ _ _ h => h) (by rfl) B7 (fun w' hSw => by go_simp) ?_
          simp only [Act.put, List.setIfInBounds_toArray, List.set_cons_zero, List.set_cons_succ]
          refine step1H 13 _ rfl (by kernel_rfl) (by rfl) ?_
          refine wp_appL (.tmp 103) (.tmp 110) rfl 111 rfl (w.heap.size + 3) cc1 (some ⟨g1, 0, none⟩) _ y2 rfl hL1' g2 1 y2.length (cc2 - 1) rfl rfl (fun j u hu => by have := hc2 (j + 1) u (by simpa using hu); rw [Nat.add_comm]; exact this) (by omega) (by simp; omega) (by omega) (by have := B7.sz; omega) ?_
          intro g3 cc3 x3 hown hgr _
          have hgr' : x2.grownBy x3 (some g1) := hgr
          have hfar := gr_below hgr' (B := w.heap.size + 3) (Nat.le_trans hsz5 hg1) (by have := B7.sz; omega)
          have B8 := B7.far hfar
          refine ⟨B8, ?_⟩
          simp only [Act.put, List.setIfInBounds_toArray, List.set_cons_zero, List.set_cons_succ]
          refine takeH 14 (some 12) (.slice (some ⟨g3, 0, none⟩) (y1.length + 1 + y2.length) cc3) rfl rfl (by kernel_rfl) (by kernel_rfl) (by kernel_rfl) (fun _ _ _ h => h) (by rfl) B8 (fun w' hSw => by go_simp) ?_
          simp only [Act.put, List.setIfInBounds_toArray, List.set_cons_zero, List.set_cons_succ]
          refine wpAnyH_done (by kernel_rfl) ?_ _
          go_wp2
          go_ret
          rw [hy]
          refine ⟨g3, cc3, by simp [Nat.add_assoc, Nat.add_comm, Nat.add_left_comm], ?_, B8.bel⟩
          have := hown.from (base' := w.heap.size) (by omega)
          simpa [frR] using this
        · have hqq : (min 1000000000000 (V i0 + U k0) == U e0) = false := by simpa [addF] using hq
          refine takeH 14 (some 96) (.bool false) rfl rfl (by kernel_rfl) (by kernel_rfl) (by kernel_rfl) (fun _ _ _ h => h) (by rfl) hS (fun w hSw => by go_split_ands; go_simp <;> first | omega | (rw [IntKind.wrap_i64]; omega) | (intro h; exfalso; omega)) ?_
          simp only [Act.put, List.setIfInBounds_toArray, List.set_cons_zero, List.set_cons_succ]
          refine takeH 15 (some 97) (.bool false) rfl rfl (by kernel_rfl) (by kernel_rfl) (by kernel_rfl) (fun _ _ _ h => h) (by rfl) hS (fun w hSw => by go_split_ands; go_simp <;> first | omega | (rw [IntKind.wrap_i64]; omega) | (intro h; exfalso; omega)) ?_
          simp only [Act.put, List.setIfInBounds_toArray, List.set_cons_zero, List.set_cons_succ]
          refine takeH 16 (some 81) (.bool false) rfl rfl (by kernel_rfl) (by kernel_rfl) (by kernel_rfl) (fun _ _ _ h => h) (by rfl) hS (fun w hSw => by go_split_ands; go_simp <;> first | omega | (rw [IntKind.wrap_i64]; omega) | (intro h; exfalso; omega)) ?_
          simp only [Act.put, List.setIfInBounds_toArray, List.set_cons_zero, List.set_cons_succ]
          refine wpAnyH_done (by kernel_rfl) ?_ _
          go_wp2_with fail
          have hS2 : (fun w' => w'.cell? ⟨w.heap.size + 1 + 1, 1, none⟩ = some (.slice (some ⟨b3, o3, none⟩) m vcap) ∧ w'.cell? ⟨w.heap.size + 1 + 1, 0, none⟩ = some (.slice (some ⟨b2, o2, none⟩) m ucap) ∧ w'.cell? ⟨b3, o3 + i0, none⟩ = some (.int .i64 (V i0)) ∧ w'.cell? ⟨b2, o2 + k0, none⟩ = some (.int .i64 (U k0))) w4.drew.drew := hS
          refine wp_region_held_drew (S := fun w' => w'.cell? ⟨w.heap.size + 1 + 1, 1, none⟩ = some (.slice (some ⟨b3, o3, none⟩) m vcap) ∧ w'.cell? ⟨w.heap.size + 1 + 1, 0, none⟩ = some (.slice (some ⟨b2, o2, none⟩) m ucap) ∧ w'.cell? ⟨b3, o3 + i0, none⟩ = some (.int .i64 (V i0)) ∧ w'.cell? ⟨b2, o2 + k0, none⟩ = some (.int .i64 (U k0))) (by kernel_rfl) hS2 (fun hS2 => ?_)
          refine takeH 0 (some 113) (.bool true) rfl rfl (by kernel_rfl) (by kernel_rfl) (by kernel_rfl) (fun _ _ _ h => h) (by rfl) hS2 (fun w hSw => by go_split_ands; go_simp <;> first | omega | (rw [IntKind.wrap_i64]; omega) | (intro h; exfalso; omega)) ?_
          simp only [Act.put, List.setIfInBounds_toArray, List.set_cons_zero, List.set_cons_succ]
          refine takeH 1 (some 114) (.bool false) rfl rfl (by kernel_rfl) (by kernel_rfl) (by kernel_rfl) (fun _ _ _ h => h) (by rfl) hS2 (fun w hSw => by go_split_ands; go_simp <;> first | omega | (rw [IntKind.wrap_i64]; omega) | (intro h; exfalso; omega)) ?_
          simp only [Act.put, List.setIfInBounds_toArray, List.set_cons_zero, List.set_cons_succ]
          refine takeH 2 (some 115) (.bool false) rfl rfl (by kernel_rfl) (by kernel_rfl) (by kernel_rfl) (fun _ _ _ h => h) (by rfl) hS2 (fun w hSw => by go_split_ands; go_simp <;> first | omega | (rw [IntKind.wrap_i64]; omega) | (intro h; exfalso; omega)) ?_
          simp only [Act.put, List.setIfInBounds_toArray, List.set_cons_zero, List.set_cons_succ]
          refine skipH 3 (some 116) rfl rfl (by kernel_rfl) (by kernel_rfl) (by kernel_rfl) (fun _ _ _ h => h) (by rfl) hS2 ?_
          simp only [Act.put, List.setIfInBounds_toArray, List.set_cons_zero, List.set_cons_succ]
          refine skipH 4 (some 117) rfl rfl (by kernel_rfl) (by kernel_rfl) (by kernel_rfl) (fun _ _ _ h => h) (by rfl) hS2 ?_
          simp only [Act.put, List.setIfInBounds_toArray, List.set_cons_zero, List.set_cons_succ]
          refine skipH 5 (some 118) rfl rfl (by kernel_rfl) (by kernel_rfl) (by kernel_rfl) (fun _ _ _ h => h) (by rfl) hS2 ?_
          simp only [Act.put, List.setIfInBounds_toArray, List.set_cons_zero, List.set_cons_succ]
          refine skipH 6 (some 119) rfl rfl (by kernel_rfl) (by kernel_rfl) (by kernel_rfl) (fun _ _ _ h => h) (by rfl) hS2 ?_
          simp only [Act.put, List.setIfInBounds_toArray, List.set_cons_zero, List.set_cons_succ]
          refine skipH 7 (some 120) rfl rfl (by kernel_rfl) (by kernel_rfl) (by kernel_rfl) (fun _ _ _ h => h) (by rfl) hS2 ?_
          simp only [Act.put, List.setIfInBounds_toArray, List.set_cons_zero, List.set_cons_succ]
          refine skipH 8 (some 121) rfl rfl (by kernel_rfl) (by kernel_rfl) (by kernel_rfl) (fun _ _ _ h => h) (by rfl) hS2 ?_
          simp only [Act.put, List.setIfInBounds_toArray, List.set_cons_zero, List.set_cons_succ]
          refine skipH 9 (some 122) rfl rfl (by kernel_rfl) (by kernel_rfl) (by kernel_rfl) (fun _ _ _ h => h) (by rfl) hS2 ?_
          simp only [Act.put, List.setIfInBounds_toArray, List.set_cons_zero, List.set_cons_succ]
          refine skipH 10 (some 123) rfl rfl (by kernel_rfl) (by kernel_rfl) (by kernel_rfl) (fun _ _ _ h => h) (by rfl) hS2 ?_
          simp only [Act.put, List.setIfInBounds_toArray, List.set_cons_zero, List.set_cons_succ]
          refine skipH 11 (some 124) rfl rfl (by kernel_rfl) (by kernel_rfl) (by kernel_rfl) (fun _ _ _ h => h) (by rfl) hS2 ?_
          simp only [Act.put, List.setIfInBounds_toArray, List.set_cons_zero, List.set_cons_succ]
          refine skipH 12 (some 125) rfl rfl (by kernel_rfl) (by kernel_rfl) (by kernel_rfl) (fun _ _ _ h => h) (by rfl) hS2 ?_
          simp only [Act.put, List.setIfInBounds_toArray, List.set_cons_zero, List.set_cons_succ]
          refine skipH 13 (some 126) rfl rfl (by kernel_rfl) (by kernel_rfl) (by kernel_rfl) (fun _ _ _ h => h) (by rfl) hS2 ?_
          simp only [Act.put, List.setIfInBounds_toArray, List.set_cons_zero, List.set_cons_succ]
          refine skipH 14 (some 127) rfl rfl (by kernel_rfl) (by kernel_rfl) (by kernel_rfl) (fun _ _ _ h => h) (by rfl) hS2 ?_
          simp only [Act.put, List.setIfInBounds_toArray, List.set_cons_zero, List.set_cons_succ]
          refine skipH 15 (some 128) rfl rfl (by kernel_rfl) (by kernel_rfl) (by kernel_rfl) (fun _ _ _ h => h) (by rfl) hS2 ?_
          simp only [Act.put, List.setIfInBounds_toArray, List.set_cons_zero, List.set_cons_succ]
          refine takeH 16 (some 129) (.bool false) rfl rfl (by kernel_rfl) (by kernel_rfl) (by kernel_rfl) (fun _ _ _ h => h) (by rfl) hS2 (fun w hSw => by go_split_ands; go_simp <;> first | omega | (rw [IntKind.wrap_i64]; omega) | (intro h; exfalso; omega)) ?_
          simp only [Act.put, List.setIfInBounds_toArray, List.set_cons_zero, List.set_cons_succ]
          refine takeH 17 (some 112) (.bool false) rfl rfl (by kernel_rfl) (by kernel_rfl) (by kernel_rfl) (fun _ _ _ h => h) (by rfl) hS2 (fun w hSw => by go_split_ands; go_simp <;> first | omega | (rw [IntKind.wrap_i64]; omega) | (intro h; exfalso; omega)) ?_
          simp only [Act.put, List.setIfInBounds_toArray, List.set_cons_zero, List.set_cons_succ]
          refine wpAnyH_done (by kernel_rfl) ?_ _
          have hf := hcont (by rw [hfit]; simpa using hq)
          clear ih hcont
          go_wp2
          go_roundw
          case rel => exact ⟨v + 1, by omega, by go_num, hf, (B4.next (Below.refl _ _).drew).next (Below.refl _ _).drew⟩
          case measure => simp [intOf]; omega

end Go.Proofs.Ytjabllghohapgah

/-
  Two metrics held against each other, the document's way.
-/
set_option linter.unusedVariables false
set_option linter.unusedSimpArgs false
namespace Go.Proofs.Ytjabllghohapgah
open Go.RowKit Go.Deep Go.Joins
attribute [local go_sem ↓] Go.wp_at_zero Go.wp_at_succ

set_option maxRecDepth 100000 in
set_option maxHeartbeats 2000000 in
theorem l5Same_any (ao : Option Addr) (n acap : Nat) (f : Nat → Int) (bo : Option Addr) (m bcap : Nat) (g : Nat → Int) (co : Option Addr) (u ccap : Nat) (f' : Nat → Int) (dO : Option Addr) (v dcap : Nat) (g' : Nat → Int) (hn : n ≤ 1048576) (hm : m ≤ 1048576) (hu : u ≤ 1048576) (hv : v ≤ 1048576) (w : World) (ha : IRow w ao n f) (hb : IRow w bo m g) (hc : IRow w co u f') (hd : IRow w dO v g') :
    Calls Try.prog 97 #[.agg #[.slice ao n acap, .slice bo m bcap], .agg #[.slice co u ccap, .slice dO v dcap]] w fun e w' => BAns e (SameI n u f f' ∧ SameI m v g g') ∧ Below w.heap.size w w' := by
  have hB0 : Below w.heap.size w ((w.alloc (.cells #[.slice ao n acap, .slice bo m bcap] 35)).alloc (.cells #[.slice co u ccap, .slice dO v dcap] 35)) := ((Below.refl _ w).alloc (Nat.le_refl _) _).alloc (by simp) _
  by_cases h1 : (n : Int) = (u : Int)
  rotate_left
  · have HN : Hid (¬ (SameI n u f f' ∧ SameI m v g g')) := fun x => h1 (by have := x.1.1; omega)
    go_enter Try.func97, Try.ntmps97
    go_wp2
    go_ret
    exact ⟨bans_no HN.out, hB0⟩
  by_cases h2 : (m : Int) = (v : Int)
  rotate_left
  · have HN : Hid (¬ (SameI n u f f' ∧ SameI m v g g')) := fun x => h2 (by have := x.2.1; omega)
    go_enter Try.func97, Try.ntmps97
    go_wp2
    go_ret
    exact ⟨bans_no HN.out, hB0⟩
  obtain rfl : n = u := by omega
  obtain rfl : m = v := by omega
  clear h1 h2
  have q0 : ((w.alloc (.cells #[.slice ao n acap, .slice bo m bcap] 35)).alloc (.cells #[.slice co n ccap, .slice dO m dcap] 35)).cell? ⟨w.heap.size, 0, none⟩ = some (.slice ao n acap) := by simp [go_sem]
  have q1 : ((w.alloc (.cells #[.slice ao n acap, .slice bo m bcap] 35)).alloc (.cells #[.slice co n ccap, .slice dO m dcap] 35)).cell? ⟨w.heap.size, 1, none⟩ = some (.slice bo m bcap) := by simp [go_sem]
  have q2 : ((w.alloc (.cells #[.slice ao n acap, .slice bo m bcap] 35)).alloc (.cells #[.slice co n ccap, .slice dO m dcap] 35)).cell? ⟨w.heap.size + 1, 0, none⟩ = some (.slice co n ccap) := by simp [go_sem]
  have q3 : ((w.alloc (.cells #[.slice ao n acap, .slice bo m bcap] 35)).alloc (.cells #[.slice co n ccap, .slice dO m dcap] 35)).cell? ⟨w.heap.size + 1, 1, none⟩ = some (.slice dO m dcap) := by simp [go_sem]
  go_enter Try.func97, Try.ntmps97
  go_wp2
  have HR : Hid (IRow w ao n f ∧ IRow w bo m g ∧ IRow w co n f' ∧ IRow w dO m g') := ⟨ha, hb, hc, hd⟩
  clear ha hb hc hd
  generalize (w.alloc (.cells #[.slice ao n acap, .slice bo m bcap] 35)).alloc (.cells #[.slice co n ccap, .slice dO m dcap] 35) = W0 at hB0 q0 q1 q2 q3 ⊢
  go_loopw [5] (fun x wr => ∃ j : Nat, j ≤ n ∧ x = .int .i64 j ∧ (∀ i, i < j → f i = f' i) ∧ Below W0.heap.size W0 wr) (fun x _ => n - (intOf x).toNat)
  case atStart => exact ⟨0, Nat.zero_le _, rfl, fun i hi => by omega, Below.refl _ _⟩
  case round =>
    obtain ⟨j, hj, rfl, hall, hbel⟩ := hrel
    have HA : Hid (∀ i, i < j → f i = f' i) := hall
    have p0 := keep_cell hbel (Nat.le_refl _) q0
    have p1 := keep_cell hbel (Nat.le_refl _) q1
    have p2 := keep_cell hbel (Nat.le_refl _) q2
    have p3 := keep_cell hbel (Nat.le_refl _) q3
    have hB1 := below_next hB0 (Nat.le_refl _) hbel
    clear hall
    by_cases hlt : j < n
    · clear q0 q1 q2 q3
      obtain ⟨b1, o1, e1, c1⟩ := (HR.out.1.below hB1 (Nat.le_refl _)) j hlt
      subst e1
      obtain ⟨b2, o2, e2, c2⟩ := (HR.out.2.2.1.below hB1 (Nat.le_refl _)) j hlt
      subst e2
      have hk1 : (0 : Int) ≤ (j : Int) := by omega
      have hk2 : (j : Int) < (n : Int) := by omega
      by_cases he : f j = f' j
      · have HE : Hid (f j = f' j) := he
        rw [← he] at c2
        clear he
        go_wp2
        (try go_quiet (fail))
        go_wp2
        go_roundw
        case rel => exact ⟨j + 1, by omega, by go_num, fun i hi => by
          by_cases x : i = j
          · subst x; exact HE.out
          · exact HA.out i (by omega), by first | exact below_drewN hbel _ | exact hbel⟩
        case measure => simp [intOf]; omega
      · have HN : Hid (¬ (SameI n n f f' ∧ SameI m m g g')) := fun x => he (x.1.2 j hlt)
        go_wp2
        (try go_quiet (fail))
        go_wp2
        go_ret
        exact ⟨bans_no HN.out, by first | exact below_drewN hB1 _ | exact hB1⟩
    have hjn : j = n := by omega
    subst hjn
    have HF : Hid (SameI j j f f') := ⟨rfl, HA.out⟩
    clear HA p0 p1 p2 p3
    have p0 := keep_cell hbel (Nat.le_refl _) q0
    have p1 := keep_cell hbel (Nat.le_refl _) q1
    go_wp2
    clear p0 p1
    go_loopw [6] (fun x wq => ∃ j2 : Nat, j2 ≤ m ∧ x = .int .i64 j2 ∧ (∀ i, i < j2 → g i = g' i) ∧ Below W0.heap.size W0 wq) (fun x _ => m - (intOf x).toNat)
    case atStart => exact ⟨0, Nat.zero_le _, rfl, fun i hi => by omega, hbel⟩
    case round =>
      clear hbel hB1
      obtain ⟨j2, hj2, rfl, hall, hbel⟩ := hrel
      have HA : Hid (∀ i, i < j2 → g i = g' i) := hall
      have p0 := keep_cell hbel (Nat.le_refl _) q0
      have p1 := keep_cell hbel (Nat.le_refl _) q1
      have p2 := keep_cell hbel (Nat.le_refl _) q2
      have p3 := keep_cell hbel (Nat.le_refl _) q3
      have hB1 := below_next hB0 (Nat.le_refl _) hbel
      clear hall q0 q1 q2 q3
      by_cases hlt2 : j2 < m
      · obtain ⟨b1, o1, e1, c1⟩ := (HR.out.2.1.below hB1 (Nat.le_refl _)) j2 hlt2
        subst e1
        obtain ⟨b2, o2, e2, c2⟩ := (HR.out.2.2.2.below hB1 (Nat.le_refl _)) j2 hlt2
        subst e2
        have hk1 : (0 : Int) ≤ (j2 : Int) := by omega
        have hk2 : (j2 : Int) < (m : Int) := by omega
        by_cases he : g j2 = g' j2
        · have HE : Hid (g j2 = g' j2) := he
          rw [← he] at c2
          clear he
          go_wp2
          (try go_quiet (fail))
          go_wp2
          go_roundw
          case rel => exact ⟨j2 + 1, by omega, by go_num, fun i hi => by
            by_cases x : i = j2
            · subst x; exact HE.out
            · exact HA.out i (by omega), by first | exact below_drewN hbel _ | exact hbel⟩
          case measure => simp [intOf]; omega
        · have HN : Hid (¬ (SameI j j f f' ∧ SameI m m g g')) := fun x => he (x.2.2 j2 hlt2)
          go_wp2
          (try go_quiet (fail))
          go_wp2
          go_ret
          exact ⟨bans_no HN.out, by first | exact below_drewN hB1 _ | exact hB1⟩
      have hjm : j2 = m := by omega
      subst hjm
      have HY : Hid (SameI j j f f' ∧ SameI j2 j2 g g') := ⟨HF.out, rfl, HA.out⟩
      go_wp2
      go_ret
      exact ⟨bans_yes HY.out, hB1⟩

end Go.Proofs.Ytjabllghohapgah

/-
  The document's question whether a metric is that of a map and a hierarchy.
-/
set_option linter.unusedVariables false
set_option linter.unusedSimpArgs false
namespace Go.Proofs.Ytjabllghohapgah
open Go.RowKit Go.Deep Go.Joins
attribute [local go_sem ↓] Go.wp_at_zero Go.wp_at_succ

set_option maxRecDepth 100000 in
set_option maxHeartbeats 4000000 in
theorem l5Is_any (p : Int) (ao : Option Addr) (n cap : Nat) (F T G : Nat → Int) (po : Option Addr) (k pcap : Nat) (P : Nat → Int) (eo : Option Addr) (m ecap : Nat) (L H : Nat → Int) (uo : Option Addr) (u ucap : Nat) (U : Nat → Int) (vo : Option Addr) (v vcap : Nat) (V : Nat → Int) (hn : n ≤ 1048576) (hk : k ≤ 1048576) (hm : m ≤ 1048576) (hu : u ≤ 1048576) (hv : v ≤ 1048576) (w : World) (hr : Row w ao n F T G) (hp : IRow w po k P) (he : ERow w eo m L H) (hU : IRow w uo u U) (hV : IRow w vo v V) :
    Calls Try.prog 58 #[.agg #[.int .i64 p, .slice ao n cap], .agg #[.slice po k pcap, .slice eo m ecap], .agg #[.slice uo u ucap, .slice vo v vcap]] w fun e w' => BAns e (HOk p n F T G k P m L H ∧ SameI m u (cusT p n F T G P).1 U ∧ SameI m v (cusT p n F T G P).2 V) ∧ Below w.heap.size w w' := by
  have hB0 : Below w.heap.size w (((w.alloc (.cells #[.int .i64 p, .slice ao n cap] 47)).alloc (.cells #[.slice po k pcap, .slice eo m ecap] 33)).alloc (.cells #[.slice uo u ucap, .slice vo v vcap] 35)).drew := ((((Below.refl _ w).alloc (Nat.le_refl _) _).alloc (by simp) _).alloc (by simp; omega) _).drew
  have q0 : (((w.alloc (.cells #[.int .i64 p, .slice ao n cap] 47)).alloc (.cells #[.slice po k pcap, .slice eo m ecap] 33)).alloc (.cells #[.slice uo u ucap, .slice vo v vcap] 35)).drew.cell? ⟨w.heap.size, 0, none⟩ = some (.int .i64 p) := by simp [go_sem]
  have q1 : (((w.alloc (.cells #[.int .i64 p, .slice ao n cap] 47)).alloc (.cells #[.slice po k pcap, .slice eo m ecap] 33)).alloc (.cells #[.slice uo u ucap, .slice vo v vcap] 35)).drew.cell? ⟨w.heap.size, 1, none⟩ = some (.slice ao n cap) := by simp [go_sem]
  have q2 : (((w.alloc (.cells #[.int .i64 p, .slice ao n cap] 47)).alloc (.cells #[.slice po k pcap, .slice eo m ecap] 33)).alloc (.cells #[.slice uo u ucap, .slice vo v vcap] 35)).drew.cell? ⟨w.heap.size + 1, 0, none⟩ = some (.slice po k pcap) := by simp [go_sem]
  have q3 : (((w.alloc (.cells #[.int .i64 p, .slice ao n cap] 47)).alloc (.cells #[.slice po k pcap, .slice eo m ecap] 33)).alloc (.cells #[.slice uo u ucap, .slice vo v vcap] 35)).drew.cell? ⟨w.heap.size + 1, 1, none⟩ = some (.slice eo m ecap) := by simp [go_sem]
  have q4 : (((w.alloc (.cells #[.int .i64 p, .slice ao n cap] 47)).alloc (.cells #[.slice po k pcap, .slice eo m ecap] 33)).alloc (.cells #[.slice uo u ucap, .slice vo v vcap] 35)).drew.cell? ⟨w.heap.size + 1 + 1, 0, none⟩ = some (.slice uo u ucap) := by simp [go_sem]
  have q5 : (((w.alloc (.cells #[.int .i64 p, .slice ao n cap] 47)).alloc (.cells #[.slice po k pcap, .slice eo m ecap] 33)).alloc (.cells #[.slice uo u ucap, .slice vo v vcap] 35)).drew.cell? ⟨w.heap.size + 1 + 1, 1, none⟩ = some (.slice vo v vcap) := by simp [go_sem]
  by_cases hH : HOk p n F T G k P m L H
  rotate_left
  · have HN : Hid (¬ HOk p n F T G k P m L H) := hH
    clear hH
    go_enter Try.func58, Try.ntmps58
    go_wp2_with fail
    refine wp_region_held_drew (S := (fun w' => w'.cell? ⟨w.heap.size, 0, none⟩ = some (.int .i64 p) ∧ w'.cell? ⟨w.heap.size, 1, none⟩ = some (.slice ao n cap) ∧ w'.cell? ⟨w.heap.size + 1, 0, none⟩ = some (.slice po k pcap) ∧ w'.cell? ⟨w.heap.size + 1, 1, none⟩ = some (.slice eo m ecap) ∧ w'.cell? ⟨w.heap.size + 1 + 1, 0, none⟩ = some (.slice uo u ucap) ∧ w'.cell? ⟨w.heap.size + 1 + 1, 1, none⟩ = some (.slice vo v vcap))) (by kernel_rfl) ⟨q0, q1, q2, q3, q4, q5⟩ (fun hS => ?_)
    refine takeH 0 (some 7) (.agg #[.int .i64 p, .slice ao n cap]) rfl rfl (by kernel_rfl) (by kernel_rfl) (by kernel_rfl) (fun _ _ _ h => h) (by rfl) hS (fun w hSw => by go_split_ands; go_simp) ?_
    simp only [Act.put, List.setIfInBounds_toArray, List.set_cons_zero, List.set_cons_succ]
    refine takeH 1 (some 8) (.agg #[.slice po k pcap, .slice eo m ecap]) rfl rfl (by kernel_rfl) (by kernel_rfl) (by kernel_rfl) (fun _ _ _ h => h) (by rfl) hS (fun w hSw => by go_split_ands; go_simp) ?_
    simp only [Act.put, List.setIfInBounds_toArray, List.set_cons_zero, List.set_cons_succ]
    refine step1H 2 _ rfl (by kernel_rfl) (by rfl) ?_
    go_simp
    refine (specHierOk_any p ao n cap F T G po k pcap P eo m ecap L H hn hk hm _ (hr.below hB0 (Nat.le_refl _)) (hp.below hB0 (Nat.le_refl _)) (he.below hB0 (Nat.le_refl _))).mono ?_
    rintro e w1 ⟨⟨x, rfl, hx⟩, hb1⟩
    obtain rfl : x = false := by
      cases x
      · rfl
      · exact absurd (hx.1 rfl) HN.out
    clear hx
    have hS1 : (fun w' => w'.cell? ⟨w.heap.size, 0, none⟩ = some (.int .i64 p) ∧ w'.cell? ⟨w.heap.size, 1, none⟩ = some (.slice ao n cap) ∧ w'.cell? ⟨w.heap.size + 1, 0, none⟩ = some (.slice po k pcap) ∧ w'.cell? ⟨w.heap.size + 1, 1, none⟩ = some (.slice eo m ecap) ∧ w'.cell? ⟨w.heap.size + 1 + 1, 0, none⟩ = some (.slice uo u ucap) ∧ w'.cell? ⟨w.heap.size + 1 + 1, 1, none⟩ = some (.slice vo v vcap)) w1 := ⟨keep_cell hb1 (Nat.le_refl _) q0, keep_cell hb1 (Nat.le_refl _) q1, keep_cell hb1 (Nat.le_refl _) q2, keep_cell hb1 (Nat.le_refl _) q3, keep_cell hb1 (Nat.le_refl _) q4, keep_cell hb1 (Nat.le_refl _) q5⟩
    refine ⟨hS1, ?_⟩
    refine takeH 3 (some 10) (.bool false) rfl rfl (by kernel_rfl) (by kernel_rfl) (by kernel_rfl) (fun _ _ _ h => h) (by rfl) hS1 (fun w hSw => by go_split_ands; go_simp) ?_
    simp only [Act.put, List.setIfInBounds_toArray, List.set_cons_zero, List.set_cons_succ]
    refine skipH 4 (some 11) rfl rfl (by kernel_rfl) (by kernel_rfl) (by kernel_rfl) (fun _ _ _ h => h) (by rfl) hS1 ?_
    simp only [Act.put, List.setIfInBounds_toArray, List.set_cons_zero, List.set_cons_succ]
    refine skipH 5 (some 12) rfl rfl (by kernel_rfl) (by kernel_rfl) (by kernel_rfl) (fun _ _ _ h => h) (by rfl) hS1 ?_
    simp only [Act.put, List.setIfInBounds_toArray, List.set_cons_zero, List.set_cons_succ]
    refine skipH 7 (some 14) rfl rfl (by kernel_rfl) (by kernel_rfl) (by kernel_rfl) (fun _ _ _ h => h) (by rfl) hS1 ?_
    simp only [Act.put, List.setIfInBounds_toArray, List.set_cons_zero, List.set_cons_succ]
    refine skip1H 6 (some 13) rfl rfl (by kernel_rfl) (by rfl) hS1 ?_
    simp only [Act.put, List.setIfInBounds_toArray, List.set_cons_zero, List.set_cons_succ]
    refine skip1H 8 (some 15) rfl rfl (by kernel_rfl) (by rfl) hS1 ?_
    simp only [Act.put, List.setIfInBounds_toArray, List.set_cons_zero, List.set_cons_succ]
    refine takeH 9 (some 16) (.bool false) rfl rfl (by kernel_rfl) (by kernel_rfl) (by kernel_rfl) (fun _ _ _ h => h) (by rfl) hS1 (fun w hSw => by go_split_ands; go_simp) ?_
    simp only [Act.put, List.setIfInBounds_toArray, List.set_cons_zero, List.set_cons_succ]
    refine takeH 10 (some 6) (.bool false) rfl rfl (by kernel_rfl) (by kernel_rfl) (by kernel_rfl) (fun _ _ _ h => h) (by rfl) hS1 (fun w hSw => by go_split_ands; go_simp) ?_
    simp only [Act.put, List.setIfInBounds_toArray, List.set_cons_zero, List.set_cons_succ]
    refine wpAnyH_done (by kernel_rfl) ?_ _
    go_wp2
    go_ret
    exact ⟨bans_no (fun y => HN.out y.1), below_next hB0 (Nat.le_refl _) hb1⟩
  obtain ⟨hlen, heq⟩ := hok_len hH
  have HH : Hid (HOk p n F T G k P m L H) := hH
  have hE := cenv_of hH.1
  have hga : arcsB p F T G n = true := (graphB_arcs (ordB_parts hH.1).2.1).2
  rw [← hlen] at hE
  have HC : Hid (cusT p n F T G P = runT (w0U n F T G P (Lf (lstF p n F T P)) (Hf (lstF p n F T P)), w0D n F T G P (Lf (lstF p n F T P)) (Hf (lstF p n F T P))) (allT m (Lf (lstF p n F T P)) (Hf (lstF p n F T P)) m)) := by
    show _ = _
    unfold cusT
    rw [← hlen]
  have HE : Hid (CEnv k n m F T G P (Lf (lstF p n F T P)) (Hf (lstF p n F T P)) ∧ arcsB p F T G n = true) := ⟨hE, hga⟩
  have he2 : ERow w eo m (Lf (lstF p n F T P)) (Hf (lstF p n F T P)) := he.congr (fun i hi => (heq i hi).1) (fun i hi => (heq i hi).2)
  have HB : Hid (∀ Q : Prop, (HOk p n F T G k P m L H ∧ Q) ↔ Q) := fun Q => ⟨fun h => h.2, fun h => ⟨HH.out, h⟩⟩
  clear hH heq hE hga hlen
  obtain ⟨⟨CU, CD⟩, hcu⟩ : ∃ c, cusT p n F T G P = c := ⟨_, rfl⟩
  rw [hcu] at HC ⊢
  clear hcu
  have HCU : Hid (∀ ao' cap' po' pcap' eo' ecap' W, Row W ao' n F T G → IRow W po' k P → ERow W eo' m (Lf (lstF p n F T P)) (Hf (lstF p n F T P)) → Calls Try.prog 59 #[.agg #[.int .i64 p, .slice ao' n cap'], .agg #[.slice po' k pcap', .slice eo' m ecap']] W fun e w' => MAns W w' e m CU CD) := fun ao' cap' po' pcap' eo' ecap' W h1 h2 h3 => by
    have := l5Customize_any p ao' n cap' F T G po' k pcap' P eo' m ecap' _ _ hn hm hk HE.out.2 HE.out.1.chd W h1 h2 h3
    rw [← HC.out] at this
    exact this
  clear HC
  go_enter Try.func58, Try.ntmps58
  go_wp2_with fail
  go_region_held3 (fun w' => w'.cell? ⟨w.heap.size, 0, none⟩ = some (.int .i64 p) ∧ w'.cell? ⟨w.heap.size, 1, none⟩ = some (.slice ao n cap) ∧ w'.cell? ⟨w.heap.size + 1, 0, none⟩ = some (.slice po k pcap) ∧ w'.cell? ⟨w.heap.size + 1, 1, none⟩ = some (.slice eo m ecap) ∧ w'.cell? ⟨w.heap.size + 1 + 1, 0, none⟩ = some (.slice uo u ucap) ∧ w'.cell? ⟨w.heap.size + 1 + 1, 1, none⟩ = some (.slice vo v vcap))
    (first | (go_split_ands; refine ⟨?_, ?_, ?_, ?_, ?_, ?_⟩ <;> exact keep_cell hb3 (Nat.le_refl _) (by assumption)) | (go_split_ands; refine ⟨?_, ?_, ?_, ?_, ?_, ?_⟩ <;> exact keep_cell hb2 (Nat.le_refl _) (by assumption)) | (go_split_ands; refine ⟨?_, ?_, ?_, ?_, ?_, ?_⟩ <;> exact keep_cell hb1 (Nat.le_refl _) (by assumption)) | go_keep)
    (first | (go_at_call 96; refine (specHierOk_any p ao n cap F T G po k pcap P eo m ecap L H hn hk hm _ (hr.below hB0 (Nat.le_refl _)) (hp.below hB0 (Nat.le_refl _)) (he.below hB0 (Nat.le_refl _))).mono ?_; rintro e w1 ⟨⟨x, rfl, hx⟩, hb1⟩; obtain rfl : x = true := hx.2 HH.out; clear hx; have hB1 := below_next hB0 (Nat.le_refl _) hb1) | (go_at_call 59; refine (HCU.out _ _ _ _ _ _ _ (hr.below hB1 (Nat.le_refl _)) (hp.below hB1 (Nat.le_refl _)) (he2.below hB1 (Nat.le_refl _))).mono ?_; rintro e w2 ⟨xo, xc, yo, yc, rfl, hXY, hsz, hb2⟩; have hB2 := below_next hB1 (Nat.le_refl _) hb2) | (go_at_call 97; refine (l5Same_any xo m xc CU yo m yc CD uo u ucap U vo v vcap V hm hm hu hv _ (fun i hi => (by obtain ⟨b, c, e1, e2, _, _, _, i1, i2⟩ := hXY (by omega); subst e1; exact i1.row i hi)) (fun i hi => (by obtain ⟨b, c, e1, e2, _, _, _, i1, i2⟩ := hXY (by omega); subst e2; exact i2.row i hi)) (hU.below hB2 (Nat.le_refl _)) (hV.below hB2 (Nat.le_refl _))).mono ?_; rintro e w3 ⟨⟨x, rfl, hx⟩, hb3⟩))
  go_wp2
  go_ret
  exact ⟨⟨x, rfl, hx.trans (HB.out _).symm⟩, below_next hB2 (Nat.le_refl _) hb3⟩

end Go.Proofs.Ytjabllghohapgah

/-
  The document's Unpack.
-/
set_option linter.unusedVariables false
set_option linter.unusedSimpArgs false
namespace Go.Proofs.Ytjabllghohapgah
open Go.RowKit Go.Maps Go.Deep Go.Joins
attribute [local go_sem ↓] Go.wp_at_zero Go.wp_at_succ

set_option maxRecDepth 100000 in
set_option maxHeartbeats 4000000 in
theorem specUnpack_any (p : Int) (ao : Option Addr) (n cap : Nat) (F T G : Nat → Int) (po : Option Addr) (k pcap : Nat) (P : Nat → Int) (eo : Option Addr) (m ecap : Nat) (L H : Nat → Int) (uo : Option Addr) (u ucap : Nat) (U : Nat → Int) (vo : Option Addr) (v vcap : Nat) (V : Nat → Int) (a c : Int) (up : Bool) (hn : n ≤ 1048576) (hk : k ≤ 1048576) (hm : m ≤ 1048576) (hu : u ≤ 1048576) (hv : v ≤ 1048576) (w : World) (hr : Row w ao n F T G) (hp : IRow w po k P) (he : ERow w eo m L H) (hU : IRow w uo u U) (hV : IRow w vo v V) :
    Calls Try.prog 40 #[.agg #[.int .i64 p, .slice ao n cap], .agg #[.slice po k pcap, .slice eo m ecap], .agg #[.slice uo u ucap, .slice vo v vcap], .int .i64 a, .int .i64 c, .bool up] w fun e w' => LAns w w' e (unL p n F T G k P m L H u U v V a c up) := by
  have B0 := u6_new w (p := p) (ao := ao) (n := n) (cap := cap) (po := po) (k := k) (pcap := pcap) (eo := eo) (m := m) (ecap := ecap) (uo := uo) (u := u) (ucap := ucap) (vo := vo) (v := v) (vcap := vcap)
  have HI := fun W h1 h2 h3 h4 h5 => l5Is_any p ao n cap F T G po k pcap P eo m ecap L H uo u ucap U vo v vcap V hn hk hm hu hv W h1 h2 h3 h4 h5
  by_cases hC : IsC p n F T G k P m L H u U v V
  rotate_left
  · have hl : unL p n F T G k P m L H u U v V a c up = [] := by unfold unL; rw [if_neg (fun h => hC h.1)]
    rw [hl]
    have y3 := B0.h1
    go_enter Try.func40, Try.ntmps40
    go_wp2_with fail
    generalize (((w.alloc (.cells #[.int .i64 p, .slice ao n cap] 47)).alloc (.cells #[.slice po k pcap, .slice eo m ecap] 33)).alloc (.cells #[.slice uo u ucap, .slice vo v vcap] 35)) = W at B0 y3 ⊢
    refine (l4Find_any eo m ecap L H a c hm _ (he.below B0.bel (Nat.le_refl _))).mono ?_
    rintro e w1 ⟨r, rfl, hr1, hb1⟩
    have B1 := B0.next hb1
    clear B0 y3 hr1
    have y0 := B1.g0
    have y1 := B1.g1
    have y2 := B1.h0
    have y3 := B1.h1
    have y4 := B1.m0
    have y5 := B1.m1
    go_wp2_with fail
    refine (HI _ (hr.below B1.bel (Nat.le_refl _)) (hp.below B1.bel (Nat.le_refl _)) (he.below B1.bel (Nat.le_refl _)) (hU.below B1.bel (Nat.le_refl _)) (hV.below B1.bel (Nat.le_refl _))).mono ?_
    rintro e w2 ⟨⟨b, rfl, hb⟩, hb2⟩
    obtain rfl : b = false := by
      cases b
      · rfl
      · exact absurd (hb.1 rfl) hC
    have B2 := B1.next hb2
    clear y0 y1 y2 y3 y4 y5 B1
    go_wp2
    go_ret
    exact lans_none (B2.bel.alloc B2.bel.size _)
  obtain ⟨hH, hsU, hsV⟩ := hC
  obtain ⟨hlen, heq⟩ := hok_len hH
  have hun : unL p n F T G k P m L H u U v V a c up = unL p n F T G k P m L H u U v V a c up := rfl
  have hC : IsC p n F T G k P m L H u U v V := ⟨hH, hsU, hsV⟩
  have he2 : ERow w eo m (Lf (lstF p n F T P)) (Hf (lstF p n F T P)) := he.congr (fun i hi => (heq i hi).1) (fun i hi => (heq i hi).2)
  obtain ⟨rfl, hsU2⟩ := hsU
  obtain ⟨rfl, hsV2⟩ := hsV
  have hU2 : IRow w uo m (cusT p n F T G P).1 := fun j hj => by
    obtain ⟨b, o, e, h⟩ := hU j hj
    exact ⟨b, o, e, by rw [hsU2 j hj]; exact h⟩
  have hV2 : IRow w vo m (cusT p n F T G P).2 := fun j hj => by
    obtain ⟨b, o, e, h⟩ := hV j hj
    exact ⟨b, o, e, by rw [hsV2 j hj]; exact h⟩
  have D := gd_can hH.1
  rw [← hlen] at D
  have hul : unL p n F T G k P m L H m U m V a c up = if hsB m (Lf (lstF p n F T P)) (Hf (lstF p n F T P)) a c = true ∧ (cn p n F T G P).wt a.toNat c.toNat up ≠ 1000000000000 then P (frR a.toNat c.toNat up) :: (cn p n F T G P).wy a.toNat c.toNat up else [] := by
    unfold unL UnY
    rw [← hlen]
    by_cases h : hsB m (Lf (lstF p n F T P)) (Hf (lstF p n F T P)) a c = true ∧ (cn p n F T G P).wt a.toNat c.toNat up ≠ 1000000000000
    · rw [if_pos h, if_pos ⟨hC, h⟩]
    · rw [if_neg h, if_neg (fun x => h x.2)]
  have HUL : True := trivial
  rw [hul]
  have hcn : cn p n F T G P = netOf n F T G P m (Lf (lstF p n F T P)) (Hf (lstF p n F T P)) (cusT p n F T G P).1 (cusT p n F T G P).2 := by unfold cn; rw [← hlen]
  rw [hcn]
  have HCC : Hid (IsC p n F T G k P m L H m U m V) := hC
  clear hcn hul hun hC hsU2 hsV2 heq hH hlen
  generalize (cusT p n F T G P).1 = Uc at hU2 D ⊢
  generalize (cusT p n F T G P).2 = Vc at hV2 D ⊢
  generalize Lf (lstF p n F T P) = Lc at he2 D ⊢
  generalize Hf (lstF p n F T P) = Hc at he2 D ⊢
  have hNR : NRows w ao n F T G po k P eo m Lc Hc uo Uc vo Vc := ⟨hr, hp, he2, hU2, hV2⟩
  obtain ⟨q, hq⟩ := D.q
  have hwtE : ∀ j, fnd Lc Hc a c m = j → 0 ≤ a → 0 ≤ c → (netOf n F T G P m Lc Hc Uc Vc).wt a.toNat c.toNat up = if up = true then Uc j else Vc j := fun j hj h0 h1 => by
    simp only [Net.wt, netOf]
    rw [show ((a.toNat : Nat) : Int) = a by omega, show ((c.toNat : Nat) : Int) = c by omega, hj]
  cases hs : hsB m Lc Hc a c with
  | false =>
    simp only [Bool.false_eq_true, false_and, if_false]
    have y3 := B0.h1
    go_enter Try.func40, Try.ntmps40
    go_wp2_with fail
    generalize (((w.alloc (.cells #[.int .i64 p, .slice ao n cap] 47)).alloc (.cells #[.slice po k pcap, .slice eo m ecap] 33)).alloc (.cells #[.slice uo m ucap, .slice vo m vcap] 35)) = W at B0 y3 ⊢
    refine (l4Find_net hq eo ecap a c hm _ (he2.below B0.bel (Nat.le_refl _))).mono ?_
    rintro e w1 ⟨r, rfl, hry, hrn, hb1⟩
    have hneg := hrn hs
    have B1 := B0.next hb1
    clear B0 y3 hry hrn
    have y0 := B1.g0
    have y1 := B1.g1
    have y2 := B1.h0
    have y3 := B1.h1
    have y4 := B1.m0
    have y5 := B1.m1
    go_wp2_with fail
    refine (HI _ (hr.below B1.bel (Nat.le_refl _)) (hp.below B1.bel (Nat.le_refl _)) (he.below B1.bel (Nat.le_refl _)) (hU.below B1.bel (Nat.le_refl _)) (hV.below B1.bel (Nat.le_refl _))).mono ?_
    rintro e w2 ⟨⟨b, rfl, hb⟩, hb2⟩
    obtain rfl : b = true := hb.2 HCC.out
    have B2 := B1.next hb2
    clear y0 y1 y2 y3 y4 y5 B1 HI hb
    go_wp2
    go_ret
    exact lans_none (B2.bel.alloc B2.bel.size _)
  | true =>
    have hat := fnd_at m (hsB_iff.1 hs)
    have hj0 := hat.1
    have hed := D.ed _ hj0
    rw [hat.2.1, hat.2.2] at hed
    obtain ⟨j, hj⟩ : ∃ j, fnd Lc Hc a c m = j := ⟨_, rfl⟩
    have hwt := hwtE j hj hed.1 (by omega)
    rw [hj] at hj0
    have l1 : (0 : Int) ≤ (j : Int) := by omega
    have l2 : (j : Int) < (m : Int) := by omega
    have l3 : ¬ (j : Int) < 0 := by omega
    clear hwtE
    by_cases hfar : (if up = true then Uc j else Vc j) = 1000000000000
    · have hwf : ¬ (True ∧ (netOf n F T G P m Lc Hc Uc Vc).wt a.toNat c.toNat up ≠ 1000000000000) := fun h => h.2 (hwt.trans hfar)
      simp only [hwf, if_false]
      have y3 := B0.h1
      go_enter Try.func40, Try.ntmps40
      go_wp2_with fail
      generalize (((w.alloc (.cells #[.int .i64 p, .slice ao n cap] 47)).alloc (.cells #[.slice po k pcap, .slice eo m ecap] 33)).alloc (.cells #[.slice uo m ucap, .slice vo m vcap] 35)) = W at B0 y3 ⊢
      refine (l4Find_net hq eo ecap a c hm _ (he2.below B0.bel (Nat.le_refl _))).mono ?_
      rintro e w1 ⟨r, rfl, hry, hrn, hb1⟩
      obtain ⟨rfl, _⟩ := hry hs
      rw [hj]
      have B1 := B0.next hb1
      clear B0 y3 hry hrn
      have y0 := B1.g0
      have y1 := B1.g1
      have y2 := B1.h0
      have y3 := B1.h1
      have y4 := B1.m0
      have y5 := B1.m1
      go_wp2_with fail
      refine (HI _ (hr.below B1.bel (Nat.le_refl _)) (hp.below B1.bel (Nat.le_refl _)) (he.below B1.bel (Nat.le_refl _)) (hU.below B1.bel (Nat.le_refl _)) (hV.below B1.bel (Nat.le_refl _))).mono ?_
      rintro e w2 ⟨⟨b, rfl, hb⟩, hb2⟩
      obtain rfl : b = true := hb.2 HCC.out
      have B2 := B1.next hb2
      clear y0 y1 y2 y3 y4 y5 B1 HI hb
      clear hwf hwt
      cases up
      · simp only [if_true, if_false, Bool.false_eq_true] at hfar
        obtain ⟨b5, o5, rfl, _⟩ := (hNR.below B2.bel (Nat.le_refl _)).dn j hj0
        obtain ⟨b6, o6, e6, d5⟩ := (hNR.below B2.bel (Nat.le_refl _)).dn j hj0
        cases e6
        have y4 := B2.m0
        have y5 := B2.m1
        go_wp2
        go_ret
        exact lans_none (B2.bel.alloc B2.bel.size _)
      · simp only [if_true, if_false, Bool.false_eq_true] at hfar
        obtain ⟨b5, o5, rfl, _⟩ := (hNR.below B2.bel (Nat.le_refl _)).up j hj0
        obtain ⟨b6, o6, e6, d5⟩ := (hNR.below B2.bel (Nat.le_refl _)).up j hj0
        cases e6
        have y4 := B2.m0
        have y5 := B2.m1
        go_wp2
        go_ret
        exact lans_none (B2.bel.alloc B2.bel.size _)
    · have hwf : (True ∧ (netOf n F T G P m Lc Hc Uc Vc).wt a.toNat c.toNat up ≠ 1000000000000) := ⟨trivial, fun h => hfar (hwt.symm.trans h)⟩
      simp only [hwf, if_true, ne_eq, not_false_eq_true, and_self]
      have y3 := B0.h1
      go_enter Try.func40, Try.ntmps40
      go_wp2_with fail
      generalize (((w.alloc (.cells #[.int .i64 p, .slice ao n cap] 47)).alloc (.cells #[.slice po k pcap, .slice eo m ecap] 33)).alloc (.cells #[.slice uo m ucap, .slice vo m vcap] 35)) = W at B0 y3 ⊢
      refine (l4Find_net hq eo ecap a c hm _ (he2.below B0.bel (Nat.le_refl _))).mono ?_
      rintro e w1 ⟨r, rfl, hry, hrn, hb1⟩
      obtain ⟨rfl, _⟩ := hry hs
      rw [hj]
      have B1 := B0.next hb1
      clear B0 y3 hry hrn
      have y0 := B1.g0
      have y1 := B1.g1
      have y2 := B1.h0
      have y3 := B1.h1
      have y4 := B1.m0
      have y5 := B1.m1
      go_wp2_with fail
      refine (HI _ (hr.below B1.bel (Nat.le_refl _)) (hp.below B1.bel (Nat.le_refl _)) (he.below B1.bel (Nat.le_refl _)) (hU.below B1.bel (Nat.le_refl _)) (hV.below B1.bel (Nat.le_refl _))).mono ?_
      rintro e w2 ⟨⟨b, rfl, hb⟩, hb2⟩
      obtain rfl : b = true := hb.2 HCC.out
      have B2 := B1.next hb2
      clear y0 y1 y2 y3 y4 y5 B1 HI hb
      clear hwf hwt
      cases up
      · simp only [if_true, if_false, Bool.false_eq_true] at hfar
        obtain ⟨b5, o5, rfl, _⟩ := (hNR.below B2.bel (Nat.le_refl _)).dn j hj0
        obtain ⟨b6, o6, e6, d5⟩ := (hNR.below B2.bel (Nat.le_refl _)).dn j hj0
        cases e6
        have y4 := B2.m0
        have y5 := B2.m1
        have y0 := B2.g0
        have y1 := B2.g1
        have y2 := B2.h0
        have y3 := B2.h1
        have hjd : decide ((j : Int) < 0) = false := by simp
        go_wp2_with fail
        have hea : ((a.toNat : Nat) : Int) = a := by omega
        have hec : ((c.toNat : Nat) : Int) = c := by omega
        have HU := l7Unpack_any p ao n cap F T G po k pcap P eo m ecap Lc Hc uo ucap Uc (some ⟨b5, o5, none⟩) vcap Vc hn hk hm q hq D.arcs D.up D.dn a.toNat c.toNat false w2 (hNR.below B2.bel (Nat.le_refl _)) (by rw [hea, hec]; exact hs) (by omega) (by omega) (by have := D.hk; omega)
        rw [hea, hec] at HU
        refine HU.mono ?_
        rintro e w3 ⟨g, gc, rfl, hO, hb3⟩
        have B3 := B2.next hb3
        go_wp2
        go_ret
        exact ⟨some ⟨g, 0, none⟩, gc, rfl, fun _ => ⟨g, rfl, Nat.le_trans B2.bel.size (hO.at rfl).1, hO.from B2.bel.size⟩, B3.bel⟩
      · simp only [if_true, if_false, Bool.false_eq_true] at hfar
        obtain ⟨b5, o5, rfl, _⟩ := (hNR.below B2.bel (Nat.le_refl _)).up j hj0
        obtain ⟨b6, o6, e6, d5⟩ := (hNR.below B2.bel (Nat.le_refl _)).up j hj0
        cases e6
        have y4 := B2.m0
        have y5 := B2.m1
        have y0 := B2.g0
        have y1 := B2.g1
        have y2 := B2.h0
        have y3 := B2.h1
        have hjd : decide ((j : Int) < 0) = false := by simp
        go_wp2_with fail
        have hea : ((a.toNat : Nat) : Int) = a := by omega
        have hec : ((c.toNat : Nat) : Int) = c := by omega
        have HU := l7Unpack_any p ao n cap F T G po k pcap P eo m ecap Lc Hc (some ⟨b5, o5, none⟩) ucap Uc vo vcap Vc hn hk hm q hq D.arcs D.up D.dn a.toNat c.toNat true w2 (hNR.below B2.bel (Nat.le_refl _)) (by rw [hea, hec]; exact hs) (by omega) (by omega) (by have := D.hk; omega)
        rw [hea, hec] at HU
        refine HU.mono ?_
        rintro e w3 ⟨g, gc, rfl, hO, hb3⟩
        have B3 := B2.next hb3
        go_wp2
        go_ret
        exact ⟨some ⟨g, 0, none⟩, gc, rfl, fun _ => ⟨g, rfl, Nat.le_trans B2.bel.size (hO.at rfl).1, hO.from B2.bel.size⟩, B3.bel⟩

end Go.Proofs.Ytjabllghohapgah
