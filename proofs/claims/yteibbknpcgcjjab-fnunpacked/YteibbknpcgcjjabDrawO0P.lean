/-
  What an order is drawn as (l3DrawOrder).
-/
import Derived.Test.YteibbknpcgcjjabDrawBoxP
import Derived.Test.YteibbknpcgcjjabDrawAnyP
import Derived.Test.YteibbknpcgcjjabPack4
set_option linter.unusedVariables false
set_option linter.unusedSimpArgs false
namespace Go.Proofs.Yteibbknpcgcjjab
open Go.RowKit Go.Maps
attribute [local go_sem ↓] Go.wp_at_zero Go.wp_at_succ

/-- What stands while an order is drawn: the cursor, a list of the call's own; nothing else that lay has turned. -/
structure OW (w : World) (base c : Nat) (ao : Option Addr) (n cap : Nat) (m og : Nat) (W : World) : Prop where
  cur : CurAt W base c ao n cap
  own : 0 < m → ∃ f, IHas W og m f
  gr : w.grownBy W (some c)
section
variable {w W W' : World} {base c : Nat} {ao : Option Addr} {n cap m og : Nat}
theorem OW.step (h : OW w base c ao n cap m og W) (hg0 : w.heap.size ≤ og) (hc : c < w.heap.size) (hC : CurAt W' base c ao n cap) (hg : W.grownBy W' (some c)) : OW w base c ao n cap m og W' :=
  ⟨hC, fun hm => by obtain ⟨f, hf⟩ := h.own hm; exact ⟨f, hf.grown hg (by simp; omega)⟩, h.gr.trans hg⟩
theorem OW.next (h : OW w base c ao n cap m og W) (hb : Below W.heap.size W W') : OW w base c ao n cap m og W' :=
  ⟨h.cur.next hb, fun hm => by obtain ⟨f, hf⟩ := h.own hm; exact ⟨f, hf.below hb hf.lt⟩, h.gr.trans ⟨hb.os, hb.tape, hb.output, hb.size, fun k hk _ => hb.block k hk⟩⟩
theorem OW.put (h : OW w base c ao n cap m og W) (hg0 : w.heap.size ≤ og) (hc : c < w.heap.size) (j : Nat) (v : Int) : OW w base c ao n cap m og (W.setCell ⟨og, j, none⟩ (.int .i64 v)) := by
  have hs := gr_setCell W og j (.int .i64 v)
  have hge := h.cur.ge
  exact ⟨h.cur.grown hs (by omega) (by omega), fun hm => by obtain ⟨f, hf⟩ := h.own hm; exact ⟨_, hf.set j v⟩, gr_far h.gr hs (fun g e => by cases e; exact Nat.le_refl _) hg0⟩
theorem OW.cell (h : OW w base c ao n cap m og W) {j : Nat} (hj : j < m) : (∃ v, W.cell? ⟨og, j, none⟩ = some (.int .i64 v)) ∧ W.frozen? ⟨og, j, none⟩ = false := by
  obtain ⟨f, hf⟩ := h.own (by omega)
  exact ⟨⟨_, hf.cell hj⟩, hf.frozen j⟩
end
theorem irowE {W : World} {aoO : Option Addr} {m og : Nat} (h1 : 0 < m → aoO = some ⟨og, 0, none⟩) (h2 : 0 < m → ∃ f, IHas W og m f) : IRow W aoO m (fun j => match W.cell? ⟨og, j, none⟩ with | some (.int _ v) => v | _ => 0) := fun k hk => by
  obtain ⟨f, hf⟩ := h2 (by omega)
  refine ⟨og, 0, h1 (by omega), ?_⟩
  have := hf.cell hk
  simp [this]
set_option maxRecDepth 100000 in
set_option maxHeartbeats 8000000 in
theorem l3DrawOrder_any (base c : Nat) (ao : Option Addr) (n cap : Nat) (p : Int) (go : Option Addr) (k gc : Nat) (F T G : Nat → Int) (hk : k ≤ 200) (w : World) (hC : CurAt w base c ao n cap) (hr : Row w go k F T G) :
    Calls Try.prog 49 #[.pointer (some ⟨c, 0, none⟩), .agg #[.int .i64 p, .slice go k gc]] w fun e w' => ∃ (po : Option Addr) (m pc : Nat) (P : Nat → Int), e = .returned (.slice po m pc) ∧ m ≤ 24 ∧ (∀ a, po = some a → 0 < m → w.heap.size ≤ a.block) ∧ IRow w' po m P ∧ CurAt w' base c ao n cap ∧ w.grownBy w' (some c) := by
  have hcl := hC.lt
  have hal := (Below.refl w.heap.size w).alloc (Nat.le_refl _) (.cells #[.int .i64 p, .slice go k gc] 32)
  have hk' : k ≤ 1048576 := by omega
  obtain ⟨m, hm⟩ : ∃ m, lenO p k F T G = m := ⟨_, rfl⟩
  obtain ⟨D, hD⟩ : ∃ D, listO p k F T = D := ⟨_, rfl⟩
  have hm24 : m ≤ 24 := by rw [← hm]; exact lenO_le p k F T G
  have hso := fun W hr' => specOrder_cap p go k gc F T G hk' W hr'
  rw [hm, hD] at hso
  have HSO : Hid (∀ W, Row W go k F T G → Calls Try.prog 74 #[.agg #[.int .i64 p, .slice go k gc]] W fun e w' => Ans W w' e m D ∧ ∀ ao m c, e = .returned (.slice ao m c) → m ≤ c) := hso
  clear hso hm hD
  go_enter Try.func49, Try.ntmps49
  go_wp2_with fail
  refine (HSO.out _ (hr.alloc _)).mono ?_
  rintro e w1 ⟨⟨aoO, capO, rfl, hO, hb1⟩, hcp⟩
  have hcap : m ≤ capO := hcp _ _ _ rfl
  clear hcp
  obtain ⟨og, hog1, hog2, hog3⟩ : ∃ og, (0 < m → aoO = some ⟨og, 0, none⟩) ∧ w.heap.size ≤ og ∧ (0 < m → ∃ f, IHas w1 og m f) := by
    by_cases h0 : 0 < m
    · obtain ⟨g, e, hge, hI⟩ := hO h0
      simp only [World.size_alloc] at hge
      exact ⟨g, fun _ => e, by omega, fun _ => ⟨_, hI⟩⟩
    · exact ⟨w.heap.size, fun h => absurd h h0, Nat.le_refl _, fun h => absurd h h0⟩
  have hW1 : OW w base c ao n cap m og w1 := ⟨(hC.next hal).next hb1, hog3, ⟨(below_next hal (Nat.le_refl _) hb1).os, (below_next hal (Nat.le_refl _) hb1).tape, (below_next hal (Nat.le_refl _) hb1).output, (below_next hal (Nat.le_refl _) hb1).size, fun k hk _ => (below_next hal (Nat.le_refl _) hb1).block k hk⟩⟩
  clear hO hb1 hog3 hal hr
  go_wp2_with fail
  refine (l1Below_any _ c ao n cap 5 (by omega) (by omega) _ hW1.cur).mono ?_
  rintro e w2 ⟨y, rfl, hy, hC2, hg2⟩
  have hW2 := hW1.step hog2 hcl hC2 hg2
  clear hW1 hC2 hg2
  go_wp2_with fail
  go_loopw [6] (fun x wr => ∃ j : Nat, j ≤ 5 ∧ x = .int .i64 j ∧ OW w base c ao n cap m og wr) (fun x _ => (intOf x).toNat)
  case atStart => exact ⟨y, by omega, rfl, hW2⟩
  case round =>
    clear hW2
    obtain ⟨j, hj, rfl, hW⟩ := hrel
    by_cases hlt : 0 < j ∧ 1 < m
    rotate_left
    · have hwo : Hid (OW w base c ao n cap m og wr) := hW
      go_wp2_with fail
      all_goals
        refine (l1Once_any _ c ao n cap 14 (by omega) (by omega) _ hwo.out.cur).mono ?_
        rintro e w3 ⟨bx, rfl, hC3, hg3⟩
        have hW3 := hwo.out.step hog2 hcl hC3 hg3
        clear hC3 hg3
        cases bx
        · go_wp2
          go_ret
          exact ⟨aoO, m, capO, _, rfl, hm24, fun a e h => by rw [hog1 h] at e; cases e; exact hog2, irowE hog1 hW3.own, hW3.cur, hW3.gr⟩
        · by_cases hm0 : 0 < m
          rotate_left
          · have hm0' : ¬ 0 < (m : Int) := by omega
            go_wp2
            go_ret
            exact ⟨aoO, m, capO, _, rfl, hm24, fun a e h => by rw [hog1 h] at e; cases e; exact hog2, irowE hog1 hW3.own, hW3.cur, hW3.gr⟩
          have hm0' : 0 < (m : Int) := by omega
          go_wp2_with fail
          refine (l1Below_any _ c ao n cap 2 (by omega) (by omega) _ hW3.cur).mono ?_
          rintro e w4 ⟨z, rfl, hz, hC4, hg4⟩
          have hW4 := hW3.step hog2 hcl hC4 hg4
          clear hC4 hg4 hW3
          have hz2 : z = 0 ∨ z = 1 := by omega
          rcases hz2 with rfl | rfl
          · have hq1 := hog1 hm0
            subst hq1
            go_wp2_with fail
            refine (l1Below_any _ c ao n cap m (by omega) (by omega) _ hW4.cur).mono ?_
            rintro e w5 ⟨i, rfl, hi, hC5, hg5⟩
            have hW5 := hW4.step hog2 hcl hC5 hg5
            clear hC5 hg5 hW4
            have hal5 := (Below.refl w5.heap.size w5).alloc (Nat.le_refl _) (.cells #[.int .i64 (-1), .int .i64 0, .int .i64 24, .int .i64 3] 2)
            have hW6 := hW5.next hal5
            have hcl5 := hW5.cur.lt
            clear hW5
            go_wp2_with fail
            refine (l1Below_any _ c ao n cap 4 (by omega) (by omega) _ hW6.cur).mono ?_
            rintro e w7 ⟨x, rfl, hx, hC7, hg7⟩
            have hW7 := hW6.step hog2 hcl hC7 hg7
            obtain ⟨v, hv⟩ := lit4 ((hg7.block w5.heap.size (by simp) (by simp <;> omega)).trans (Go.Deep.blk_alloc_new _ _)) (show x < 4 by omega)
            have hx4 : (x : Int) < 4 := by omega
            have him : i < m := by omega
            obtain ⟨⟨v1, c1⟩, z1⟩ := hW7.cell him
            have hW8 := hW7.put hog2 hcl i v
            clear hC7 hg7 hW6 hal5
            have HW8 : Hid (OW w base c ao n cap m og (w7.setCell ⟨og, i, none⟩ (.int .i64 v))) := hW8
            clear hW8 hW7
            go_wp2
            go_ret
            exact ⟨_, m, capO, _, rfl, hm24, fun a e h => by cases e; exact hog2, irowE (fun _ => rfl) HW8.out.own, HW8.out.cur, HW8.out.gr⟩
          · obtain rfl := hog1 hm0
            by_cases hc1 : capO = 1
            · subst hc1
              have hm1 : m = 1 := by omega
              subst hm1
              go_wp2
              go_ret
              exact ⟨_, _, _, fun _ => 0, rfl, by omega, fun a e h => by omega, fun q hq => by omega, hW4.cur, hW4.gr⟩
            · have hc2 : 1 < capO := by omega
              go_wp2
              go_ret
              obtain ⟨f, hf⟩ := hW4.own hm0
              exact ⟨_, _, _, fun q => f (q + 1), rfl, by omega, fun a e h => by cases e; exact hog2, fun q hq => ⟨og, 1, rfl, by rw [Nat.add_comm]; exact hf.cell (by omega)⟩, hW4.cur, hW4.gr⟩
    obtain ⟨hj0, hm1⟩ := hlt
    have hj0' : 0 < (j : Int) := by omega
    have hm1' : 1 < (m : Int) := by omega
    obtain rfl := hog1 (by omega)
    go_wp2_with fail
    refine (l1Below_any _ c ao n cap m (by omega) (by omega) _ hW.cur).mono ?_
    rintro e w3 ⟨i, rfl, hi, hC3, hg3⟩
    have hW3 := hW.step hog2 hcl hC3 hg3
    clear hC3 hg3 hW
    go_wp2_with fail
    refine (l1Below_any _ c ao n cap m (by omega) (by omega) _ hW3.cur).mono ?_
    rintro e w4 ⟨k', rfl, hk2, hC4, hg4⟩
    have hW4 := hW3.step hog2 hcl hC4 hg4
    clear hC4 hg4 hW3
    have him : i < m := by omega
    have hkm : k' < m := by omega
    obtain ⟨⟨v1, c1⟩, z1⟩ := hW4.cell him
    obtain ⟨⟨v2, c2⟩, z2⟩ := hW4.cell hkm
    have HP : Hid (OW w base c ao n cap m og ((w4.setCell ⟨og, i, none⟩ (.int .i64 v2)).setCell ⟨og, k', none⟩ (.int .i64 v1))) := (hW4.put hog2 hcl i v2).put hog2 hcl k' v1
    clear hW4
    by_cases hik : i = k'
    · subst hik
      rw [c1] at c2
      simp at c2
      subst c2
      go_wp2
      go_roundw
      case rel => exact ⟨j - 1, by omega, by rw [show ((j - 1 : Nat) : Int) = (j : Int) - 1 by omega], HP.out⟩
      case measure => simp [intOf]; omega
    · have hik2 : ¬ k' = i := fun e => hik e.symm
      go_wp2
      go_roundw
      case rel => exact ⟨j - 1, by omega, by rw [show ((j - 1 : Nat) : Int) = (j : Int) - 1 by omega], HP.out⟩
      case measure => simp [intOf]; omega

end Go.Proofs.Yteibbknpcgcjjab
